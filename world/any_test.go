package world_test

import (
	"bytes"
	"math"
	"math/rand/v2"
	"slices"
	"testing"

	"colonnade/api"
	"colonnade/talk"
	"colonnade/word"
	"colonnade/world"
)

func TestNilWorld(t *testing.T) {
	var w *world.World
	for kind := range byte(14) {
		for _, n := range []int{-1, 0, 9} {
			checkDo(t, w, world.Step{Kind: kind, Who: n, N: n, Object: api.Object{Data: make([]byte, 9999)}}, api.ErrNone)
		}
	}
	for _, n := range []int{math.MinInt, -1, 0, 1, math.MaxInt} {
		if w.Calm(n) != 0 || w.Got(n) != nil || w.Asks(n) != nil || w.Hub(n) != nil {
			t.Fatalf("a nil world has something at %d", n)
		}
	}
	if w.Lines() != nil || w.Flying() != 0 || w.Now() != 0 || w.Rest() || w.Forged() != 0 {
		t.Fatal("a nil world has something")
	}
}

func TestNoSuchNumber(t *testing.T) {
	w := newWorld(t, row(2))
	settle(t, w, announce(0, "t"), subscribe(3, "t", 0), publish(0, "t", object(0, 0)))
	for _, n := range []int{math.MinInt, -1, 4, 5, math.MaxInt} {
		if w.Got(n) != nil || w.Asks(n) != nil || w.Hub(n) != nil {
			t.Fatalf("there is something at %d", n)
		}
	}
	if w.Hub(2) != nil || w.Hub(1) == nil || len(w.Got(3)) != 1 || len(w.Asks(3)) != 1 {
		t.Fatal("there is a third hub, or nothing at the last number")
	}
}

// The hubs and lines are the world's own, always the same ones.
func TestOwn(t *testing.T) {
	w := newWorld(t, row(2))
	l := w.Lines()
	clear(l)
	if again := w.Lines(); len(again) != 10 || again[0] == nil || !slices.Equal(again, w.Lines()) || w.Hub(0) != w.Hub(0) || w.Hub(0) == w.Hub(1) {
		t.Fatal("other ones")
	}
}

// Arguments are not kept, nor changed.
func TestArguments(t *testing.T) {
	c := row(2)
	w, e := world.New(c)
	checkErrno(t, "New", e, api.OK)
	c.Homes[0], c.Links[0] = 9, [2]int{9, 9}
	calm(t, w)
	scratch := make([]byte, 100)
	track := append(scratch[:0:50], 't', 'u')
	data := append(scratch[50:50], 1, 2, 3)
	spoil := func() {
		t.Helper()
		if string(track) != "tu" || !bytes.Equal(data, []byte{1, 2, 3}) || !bytes.Equal(scratch[2:50], make([]byte, 48)) || !bytes.Equal(scratch[53:], make([]byte, 47)) {
			t.Fatal("an argument was changed")
		}
		for i := range track {
			track[i] = 0xff
		}
		clear(data)
	}
	again := func() {
		copy(track, "tu")
		copy(data, []byte{1, 2, 3})
	}
	for _, s := range []world.Step{
		{Kind: world.Announce, Track: track},
		{Kind: world.Subscribe, Who: 2, Track: track, Msg: word.Msg{Order: 1}},
		{Kind: world.Publish, Track: track, Object: api.Object{Data: data}},
		{Kind: world.Publish, Track: track, Object: api.Object{Place: at(0, 1), Gram: true, Data: data}},
		{Kind: world.Fetch, Who: 3, Track: track, Msg: word.Msg{End: at(0, 5)}},
	} {
		do(t, w, s)
		spoil()
		calm(t, w)
		again()
	}
	first, second := api.Object{Data: []byte{1, 2, 3}}, api.Object{Place: at(0, 1), Data: []byte{1, 2, 3}}
	checkGot(t, w, 3, answer(0, "tu", first, second)...)
	second.Gram = true
	checkGot(t, w, 2, got(0, "tu", first), got(0, "tu", second))
}

// Results are new memory.
func TestResults(t *testing.T) {
	w := newWorld(t, one())
	settle(t, w, announce(0, "t"), subscribe(1, "t", 0), subscribe(1, "t", 0), publish(0, "t", object(0, 0)), publish(0, "t", object(0, 1)))
	l := w.Got(1)
	if len(l) != 4 {
		t.Fatalf("%d objects", len(l))
	}
	spoil := func(p []byte) {
		p = p[:cap(p)]
		for i := range p {
			p[i] ^= 0x55
		}
	}
	for _, g := range l[:3] {
		spoil(g.Track)
		spoil(g.Object.Data)
	}
	if !same(l[3], got(2, "t", object(0, 1))) {
		t.Fatalf("two results share memory: %+v", l[3])
	}
	clear(l[:cap(l)])
	checkGot(t, w, 1, got(0, "t", object(0, 0)), got(2, "t", object(0, 0)), got(0, "t", object(0, 1)), got(2, "t", object(0, 1)))
	asks := w.Asks(1)
	spoil(asks[0].Msg.Name)
	if string(asks[1].Msg.Name) != "t" || string(w.Asks(1)[0].Msg.Name) != "t" {
		t.Fatal("requests share memory")
	}
	asks[1] = talk.Ask{}
	settle(t, w, publish(0, "t", object(0, 2)), fetch(2, "t", at(0, 0), at(0, 2)))
	checkGot(t, w, 2, answer(0, "t", object(0, 0), object(0, 1), object(0, 2))...)
}

// The same steps give the same results.
func TestSameAgain(t *testing.T) {
	type outcome struct {
		e           api.Errno
		flying, got int
		now         uint64
	}
	run := func() []outcome {
		random := rand.New(rand.NewPCG(21, 6))
		x := newScript(t, random, false)
		var l []outcome
		for range 600 {
			e := x.w.Do(x.step())
			o := outcome{e: e, flying: x.w.Flying(), now: x.w.Now()}
			for end := range x.c.Homes {
				o.got += len(x.w.Got(end))
			}
			l = append(l, o)
		}
		return append(l, outcome{flying: x.w.Calm(500)})
	}
	if a, b := run(), run(); !slices.Equal(a, b) {
		t.Fatal("another run gives other results")
	}
}

// odd returns a number that is small, or at the end of some range.
func odd(random *rand.Rand) uint64 {
	ends := []uint64{1 << 31, 1 << 32, 1 << 60, api.MaxNum, 1 << 63, math.MaxUint64}
	if random.IntN(6) > 0 {
		return random.Uint64N(4)
	}
	return ends[random.IntN(len(ends))] + random.Uint64N(6) - 3
}

func oddBytes(random *rand.Rand) []byte {
	if random.IntN(9) == 0 {
		return make([]byte, random.IntN(40))
	}
	return []byte{byte('a' + random.IntN(2))}
}

func oddMsg(random *rand.Rand) word.Msg {
	m := word.Msg{Kind: odd(random), ID: odd(random), Priority: byte(random.Uint32()), Start: at(odd(random), odd(random))}
	if random.IntN(2) == 0 {
		m.Order = byte(1 + random.IntN(2))
	} else {
		m.End = at(odd(random), odd(random))
	}
	if random.IntN(20) == 0 {
		m.Reason, m.N, m.Versions, m.Some = oddBytes(random), odd(random), []uint64{odd(random)}, true
	}
	return m
}

// No call panics, whatever it is given, and all end.
func TestAnyArguments(t *testing.T) {
	random := rand.New(rand.NewPCG(21, 7))
	errors := map[api.Errno]int{}
	for range 3000 {
		c := world.Config{Hubs: int(odd(random)), Room: int(odd(random)), Lets: odd(random), Late: odd(random)}
		for range random.IntN(4) {
			c.Homes = append(c.Homes, int(odd(random)))
			c.Links = append(c.Links, [2]int{int(odd(random)), int(odd(random))})
		}
		if w, e := world.New(c); (e == api.OK) != (w != nil) || e != api.OK && e != api.ErrArg {
			t.Fatalf("New(%+v): %d", c, e)
		}
	}
	for range 150 {
		w := newWorld(t, row(1+random.IntN(3)))
		for range 150 {
			s := world.Step{
				Kind: byte(random.IntN(13)), Who: random.IntN(5), Track: oddBytes(random), Msg: oddMsg(random), N: int(odd(random)), By: byte(random.Uint32()),
				Object: api.Object{Place: at(odd(random), odd(random)), Priority: byte(random.Uint32()), Gram: random.IntN(4) == 0, Data: make([]byte, random.IntN(1+random.IntN(3000)))},
			}
			errors[w.Do(s)]++
			if random.IntN(3) == 0 {
				w.Calm(random.IntN(20))
			}
		}
		w.Calm(4000)
		if w.Forged() != 0 {
			t.Fatal("forged")
		}
		for _, l := range w.Lines() {
			if code, _, _ := l.Code(); code != 0 {
				t.Fatalf("a line has the code %x", code)
			}
		}
	}
	for _, e := range []api.Errno{api.OK, api.ErrArg, api.ErrForm, api.ErrNone} {
		if errors[e] < 20 {
			t.Errorf("the error %d was returned %d times", e, errors[e])
		}
	}
}
