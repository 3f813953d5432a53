package talk_test

import (
	"bytes"
	"slices"
	"testing"

	"colonnade/api"
	"colonnade/talk"
	"colonnade/word"
)

// spare is more than the slices of a message ever need.
const spare = 80

// roomy returns m with spare capacity in all of its slices, also in those that are empty.
func roomy(m word.Msg) word.Msg {
	m.Name = append(bytes.Clone(m.Name), bytes.Repeat([]byte{7}, spare)...)[:len(m.Name)]
	m.Reason = append(bytes.Clone(m.Reason), bytes.Repeat([]byte{7}, spare)...)[:len(m.Reason)]
	m.Versions = append(slices.Clone(m.Versions), make([]uint64, spare)...)[:len(m.Versions)]
	return m
}

// spoil overwrites the slices of messages with their spare capacity.
func spoil(l ...word.Msg) {
	for _, m := range l {
		for _, p := range [][]byte{m.Name[:cap(m.Name)], m.Reason[:cap(m.Reason)]} {
			for i := range p {
				p[i] ^= 0xff
			}
		}
		for i := range m.Versions[:cap(m.Versions)] {
			m.Versions[:cap(m.Versions)][i] ^= 0xff
		}
	}
}

// checkUntouched checks that roomy's m and its spare capacity are as they were.
func checkUntouched(t *testing.T, m, was word.Msg) {
	t.Helper()
	if !same(m, was) {
		t.Fatalf("an argument is %+v now, and was %+v", m, was)
	}
	for _, b := range append(m.Name[len(m.Name):cap(m.Name)], m.Reason[len(m.Reason):cap(m.Reason)]...) {
		if b != 7 && b != 0 {
			t.Fatal("the spare capacity of an argument was changed")
		}
	}
	for _, n := range m.Versions[len(m.Versions):cap(m.Versions)] {
		if n != 0 {
			t.Fatal("the spare capacity of an argument was changed")
		}
	}
}

// A session keeps nothing of its arguments, and shares nothing with what it returns.
func TestMemory(t *testing.T) {
	for _, kind := range requestKinds {
		x := upOf(t, true, 9, 9)
		want := request(kind, 0)
		m := roomy(want)
		hear(t, x, m)
		checkUntouched(t, m, want)
		spoil(m)

		own := request(kind, 0)
		m = roomy(own)
		sent, e := x.Say(m)
		if e != api.OK {
			t.Fatalf("Say(%+v): %d", m, e)
		}
		checkUntouched(t, m, own)
		spoil(m)
		own.ID = 1
		if !same(sent, own) {
			t.Fatalf("the result of Say is %+v; want %+v", sent, own)
		}
		spoil(sent)
		for id, want := range []word.Msg{want, own} {
			for range 2 {
				a, ok := x.Find(uint64(id))
				if !ok || !same(a.Msg, want) {
					t.Fatalf("Find(%d) = %+v; want %+v", id, a, want)
				}
				spoil(a.Msg)
				l := x.Asks(id == 1)
				if len(l) != 1 || !same(l[0].Msg, want) {
					t.Fatalf("Asks = %+v; want %+v", l, want)
				}
				spoil(l[0].Msg)
				l[0] = talk.Ask{}
			}
		}
	}
}

// What is said about a request is not shared with the argument either.
func TestMemoryOfAnswers(t *testing.T) {
	x := heard(t, true)
	for _, want := range []word.Msg{
		about(word.SubscribeOK, 0), {Kind: word.SubscribeDone, ID: 0, Reason: []byte("why")},
		{Kind: word.AnnounceError, ID: 2, Reason: []byte("no")}, about(word.FetchOK, 4), {Kind: word.Goaway},
	} {
		m := roomy(want)
		sent, e := x.Say(m)
		checkUntouched(t, m, want)
		spoil(m)
		if e != api.OK || !same(sent, want) {
			t.Fatalf("Say = %+v, %d; want %+v", sent, e, want)
		}
		spoil(sent)
		spoil(m)
		checkUntouched(t, m, want)
	}
}

func TestMemoryOfSetups(t *testing.T) {
	m := roomy(clientSetup(9, 2, 1, 3))
	x := talk.New(true, 9)
	hear(t, x, m)
	checkUntouched(t, m, clientSetup(9, 2, 1, 3))
	spoil(x.Out()...)
	a, b := talk.New(false, 9), talk.New(false, 9)
	spoil(a.Out()...)
	checkOut(t, b, clientSetup(9, 1))
}

// A list of Out shares nothing with a later one.
func TestMemoryOfOut(t *testing.T) {
	x := heard(t, true)
	hear(t, x, about(word.Unsubscribe, 0))
	l := x.Out()
	hear(t, x, about(word.FetchCancel, 4))
	if m := append(l, word.Msg{}, word.Msg{}); len(m) != 3 || !same(l[0], maxRequest(10)) {
		t.Fatalf("the earlier list is %+v", l)
	}
	checkOut(t, x, maxRequest(11))
}
