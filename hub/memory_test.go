package hub_test

import (
	"bytes"
	"slices"
	"testing"

	"colonnade/api"
	"colonnade/hub"
	"colonnade/word"
)

// spare is more than the slices of a message ever need.
const spare = 80

// roomy returns p with spare capacity, also if it is empty.
func roomy(p []byte) []byte {
	return append(bytes.Clone(p), bytes.Repeat([]byte{7}, spare)...)[:len(p)]
}

func roomyMsg(m word.Msg) word.Msg {
	m.Name, m.Reason = roomy(m.Name), roomy(m.Reason)
	m.Versions = append(slices.Clone(m.Versions), make([]uint64, spare)...)[:len(m.Versions)]
	return m
}

// flip overwrites p with its spare capacity.
func flip(p []byte) {
	p = p[:cap(p)]
	for i := range p {
		p[i] ^= 0xff
	}
}

func spoil(l ...word.Msg) {
	for _, m := range l {
		flip(m.Name)
		flip(m.Reason)
		m.Versions = m.Versions[:cap(m.Versions)]
		for i := range m.Versions {
			m.Versions[i] ^= 0xff
		}
	}
}

// untouched reports whether the spare capacity of roomy's p is as it was.
func untouched(p []byte) bool {
	p = p[len(p):cap(p)]
	return bytes.Equal(p[:spare], bytes.Repeat([]byte{7}, spare))
}

// hearRoomy makes a hub hear messages that are overwritten afterwards.
func hearRoomy(t *testing.T, h *hub.Hub, peer uint64, l ...word.Msg) {
	t.Helper()
	for _, want := range l {
		m := roomyMsg(want)
		hear(t, h, peer, m)
		if !same(m, want) || !untouched(m.Name) || !untouched(m.Reason) || slices.Max(m.Versions[:cap(m.Versions)]) > 1 {
			t.Fatalf("the argument %+v is changed", m)
		}
		spoil(m)
	}
}

// A hub keeps nothing of its arguments, and changes nothing of them.
func TestMemoryOfArguments(t *testing.T) {
	h := newHub(t, most)
	for p := uint64(1); p <= 3; p++ {
		join(t, h, p, true)
		hearRoomy(t, h, p, setupFrom(false, may))
	}
	h.Out()
	hearRoomy(t, h, 1, announce(0, "track"))
	hearRoomy(t, h, 2, subscribe(0, 5, "track"), fetch(2, "track", at(1, 1), at(2, 2)))
	hearRoomy(t, h, 1, about(word.SubscribeOK, 1), about(word.FetchOK, 3))
	checkSaid(t, h, to(1, about(word.AnnounceOK, 0)), to(2, announce(1, "track")), to(3, announce(1, "track")),
		to(1, subscribe(1, 0, "track")), to(1, fetch(3, "track", at(1, 1), at(2, 2))), to(2, about(word.SubscribeOK, 0)), to(2, about(word.FetchOK, 2)))

	want := object(1, 1, 30)
	o := want
	o.Data = roomy(o.Data)
	pass(t, h, 1, 0, o)
	checkFetched(t, h, 1, 3, o, false, api.OK)
	if !sameObject(o, want) || !untouched(o.Data) {
		t.Fatal("the argument is changed")
	}
	flip(o.Data)
	checkGiven(t, h, given(2, 0, 5, want), answer(2, 2, want)[0])
	hear(t, h, 3, fetch(0, "track", at(1, 1), at(1, 1)))
	if _, g := h.Out(); len(g) != 2 || !sameObject(g[0].Object, want) {
		t.Fatalf("given is %+v", g)
	}
	for _, ask := range []func([]byte){func(p []byte) { h.Feed(p) }, func(p []byte) { h.Users(p) }} {
		p := roomy([]byte("track"))
		if ask(p); string(p) != "track" || !untouched(p) {
			t.Fatal("the argument is changed")
		}
	}
	checkTracks(t, h, "track")
	hearRoomy(t, h, 2, about(word.AnnounceOK, 1))
	hearRoomy(t, h, 1, unannounce("track"))
	l, _ := h.Out()
	if i := slices.IndexFunc(l, func(s hub.Said) bool { return sameSaid(s, to(2, unannounce("track"))) }); i < 0 {
		t.Fatalf("said is %+v", l)
	}
}

// No result shares memory with the hub or with another result.
func TestMemoryOfResults(t *testing.T) {
	h := feeding(t)
	hear(t, h, 3, subscribe(0, 5, "t"))
	hear(t, h, 1, announce(2, "u"))
	l, _ := h.Out()
	for i, s := range l {
		rest := slices.Clone(l[i+1:])
		for k, x := range rest {
			rest[k].Msg.Name = bytes.Clone(x.Msg.Name)
		}
		spoil(s.Msg)
		if !slices.EqualFunc(l[i+1:], rest, sameSaid) {
			t.Fatal("two messages share memory")
		}
	}
	o := object(1, 1, 30)
	pass(t, h, 1, 0, o)
	hear(t, h, 4, fetch(0, "t", at(1, 1), at(1, 1)), fetch(2, "t", at(1, 1), at(1, 1)))
	_, g := h.Out()
	if len(g) != 6 {
		t.Fatalf("given is %+v", g)
	}
	for _, i := range []int{0, 1, 2, 4} {
		if !sameObject(g[i].Object, o) {
			t.Fatalf("given is %+v", g)
		}
		flip(g[i].Object.Data)
	}
	hear(t, h, 4, fetch(4, "t", at(1, 1), at(1, 1)))
	if _, g := h.Out(); !sameObject(g[0].Object, o) {
		t.Fatalf("given is %+v", g)
	}
	for range 2 {
		checkTracks(t, h, "t", "u")
		for _, p := range h.Tracks() {
			flip(p)
		}
		checkPeers(t, h, 1, 2, 3, 4)
		clear(h.Peers())
	}
	if l := h.Session(1).Asks(true); len(l) != 1 || string(l[0].Msg.Name) != "t" {
		t.Fatalf("the requests of the hub are %+v", l)
	}
}

// A list of Out shares nothing with a later one.
func TestMemoryOfOut(t *testing.T) {
	h := feeding(t)
	pass(t, h, 1, 0, object(1, 1, 1))
	hear(t, h, 3, subscribe(0, 5, "t"))
	l, g := h.Out()
	pass(t, h, 1, 0, object(1, 2, 1))
	hear(t, h, 3, subscribe(2, 6, "u"))
	l, g = append(l, hub.Said{}, hub.Said{}), append(g, hub.Give{}, hub.Give{})
	checkOut(t, h, []hub.Said{to(3, over(word.SubscribeError, 2, 4)), to(3, maxRequest(lets+1))}, []hub.Give{given(2, 0, 5, object(1, 2, 1)), given(3, 0, 5, object(1, 2, 1))})
	if !sameSaid(l[0], to(3, okAt(0, at(1, 1)))) || !sameGive(g[0], given(2, 0, 5, object(1, 1, 1))) {
		t.Fatalf("the earlier lists are %+v, %+v", l, g)
	}
}
