package pipe_test

import (
	"bytes"
	"fmt"
	"maps"
	"math"
	"math/rand/v2"
	"slices"
	"testing"

	"colonnade/api"
	"colonnade/frame"
	"colonnade/pipe"
)

// sentFrame is one on its way. A side learns what became of it later.
type sentFrame struct {
	f      api.Frame
	landed bool
}

// part is what was written to one direction of a stream, and what was read of it.
type part struct {
	written []byte
	ended   bool
	reset   bool // or stopped
	read    []byte
	done    bool // it is read up to its end, or as reset
}

// talker is one of two sides that talk.
type talker struct {
	*pipe.Table
	name  string
	sends map[uint64]*part // what this side sends
	road  []*sentFrame     // from this side to the other one
	came  []uint64         // each stream of the other side
}

// talk is two sides, between which frames go in any order, and get lost.
type talk struct {
	*testing.T
	*rand.Rand
	ends   [2]*talker
	limits pipe.Limits
	most   int // bytes of a stream
}

func newTalk(t *testing.T, seed uint64) *talk {
	random := rand.New(rand.NewPCG(12, seed))
	x := &talk{T: t, Rand: random, most: 1 + random.IntN(3000)}
	x.limits = pipe.Limits{Window: 1 + random.Uint64N(300), Credit: 1 + random.Uint64N(600), Bidi: 1 + random.Uint64N(4), Uni: 1 + random.Uint64N(4)}
	for i, name := range []string{"client", "server"} {
		x.ends[i] = &talker{Table: sideOf(i == 1, x.limits), name: name, sends: map[uint64]*part{}}
	}
	return x
}

// open opens a stream, if the other side permits it.
func (x *talk) open(e *talker) {
	id, err := e.Open(x.IntN(2) == 0)
	if err == api.OK {
		e.sends[id] = &part{}
	}
}

// write writes to one of the streams that are not ended.
func (x *talk) write(e *talker) {
	id, p := x.pick(e)
	if p == nil || p.ended {
		return
	}
	b := make([]byte, x.IntN(200))
	for i := range b {
		b[i] = byte(x.Uint32())
	}
	ends := x.IntN(5) == 0 || len(p.written)+len(b) > x.most
	switch err := e.Write(id, b, ends); err {
	case api.OK:
		p.written, p.ended = append(p.written, b...), ends
	case api.ErrFull:
	case api.ErrOver:
		// The other side has stopped it.
		if !p.reset {
			x.Fatalf("%s: Write(%d): %d", e.name, id, err)
		}
	default:
		x.Fatalf("%s: Write(%d): %d", e.name, id, err)
	}
}

// pick returns one of the streams that a side sends on.
func (x *talk) pick(e *talker) (uint64, *part) {
	if len(e.sends) == 0 {
		return 0, nil
	}
	ids := slices.Sorted(maps.Keys(e.sends))
	id := ids[x.IntN(len(ids))]
	return id, e.sends[id]
}

// cut resets one of the streams that a side sends on, or asks it to stop.
func (x *talk) cut(e, other *talker) {
	id, p := x.pick(e)
	if p == nil {
		return
	}
	if x.IntN(2) == 0 {
		if e.Reset(id, 40+id) == api.OK {
			p.reset = true
		}
		return
	}
	if other.Stop(id, 40+id) == api.OK {
		p.reset = true
	}
}

// send puts what a side sends on its way.
func (x *talk) send(e *talker, room int) {
	l := e.Frames(room)
	if n := sizeOf(l...); n > max(room, 0) {
		x.Fatalf("%s: Frames(%d): %d bytes", e.name, room, n)
	}
	for _, f := range l {
		// As it arrives through layer 5.
		p, err := frame.Bytes(f)
		if err != api.OK {
			x.Fatalf("%s: Bytes(%+v): %d", e.name, f, err)
		}
		if f, _, err = frame.Read(p); err != api.OK {
			x.Fatalf("%s: Read(%x): %d", e.name, p, err)
		}
		e.road = append(e.road, &sentFrame{f: f})
	}
}

// move does something with one of the frames that are on their way: it arrives, is told to be lost though it may arrive later, or to be acknowledged.
func (x *talk) move(e, other *talker) {
	if len(e.road) == 0 {
		return
	}
	i := x.IntN(len(e.road))
	s := e.road[i]
	switch n := x.IntN(8); {
	case n < 5:
		if c := other.Hear(s.f); c != 0 {
			x.Fatalf("%s: Hear(%+v) = %d", other.name, s.f, c)
		}
		s.landed = true
	case n == 5 && s.landed:
		e.Acked(s.f)
		e.road = slices.Delete(e.road, i, i+1)
	case n == 6:
		e.Lost(s.f)
		// Late frames are heard all the same.
		if !s.landed && x.IntN(2) == 0 {
			if c := other.Hear(s.f); c != 0 {
				x.Fatalf("%s: Hear(%+v) late = %d", other.name, s.f, c)
			}
		}
		e.road = slices.Delete(e.road, i, i+1)
	}
}

// read reads at most most bytes of one of the streams that the other side sends on.
func (x *talk) read(e, other *talker, id uint64, most int) {
	p := other.sends[id]
	if p == nil {
		return
	}
	b, done, code, err := e.Read(id, most)
	switch {
	case err == api.OK:
		p.read = append(p.read, b...)
		if !bytes.HasPrefix(p.written, p.read) {
			x.Fatalf("%s: what is read of %d was not written", e.name, id)
		}
		if done && !(p.ended && len(p.read) == len(p.written)) {
			x.Fatalf("%s: %d ends after %d bytes", e.name, id, len(p.read))
		}
		p.done = p.done || done
	case err == api.ErrClosed && p.reset && code == 40+id:
		p.done = true
	case err == api.ErrOver && p.done:
	case err == api.ErrNone && e.Rank(id, pipe.Rank{}) == api.ErrNone:
	default:
		x.Fatalf("%s: Read(%d): %d, %d", e.name, id, code, err)
	}
}

// meet takes the streams of the other side that came; on the bidirectional ones this side sends, too.
func (x *talk) meet(e *talker) {
	for _, id := range e.Came() {
		e.came = append(e.came, id)
		if id&2 == 0 {
			e.sends[id] = &part{}
		}
	}
}

// step does something at random. What ends a stream early is rare.
func (x *talk) step() {
	i := x.IntN(2)
	e, other := x.ends[i], x.ends[1-i]
	switch n := x.IntN(100); {
	case n < 5:
		x.open(e)
	case n < 30:
		x.write(e)
	case n < 45:
		x.send(e, x.IntN(300)-5)
	case n < 80:
		x.move(e, other)
	case n < 95:
		id, _ := x.pick(other)
		x.read(e, other, id, x.IntN(200)-5)
	case n < 97:
		x.meet(e)
	case n < 99:
		if id, p := x.pick(e); p != nil {
			e.Rank(id, pipe.Rank{x.Uint64N(3), x.Uint64N(2), x.Uint64N(2)})
		}
	case x.IntN(4) == 0:
		x.cut(e, other)
	}
	x.bounds(e, other)
}

// bounds checks that what waits stays within what is permitted.
func (x *talk) bounds(e, other *talker) {
	unread, _ := e.Held()
	_, unacked := other.Held()
	if uint64(unread) > x.limits.Credit || unacked > waiting*len(other.sends) {
		x.Fatalf("%s: %d bytes wait to be read, %d to be acknowledged", e.name, unread, unacked)
	}
}

// finish ends all streams and lets everything arrive, until nothing is sent any more.
func (x *talk) finish() {
	for range 20000 {
		for i, e := range x.ends {
			x.meet(e)
			x.end(e, x.ends[1-i])
		}
		quiet := true
		for i, e := range x.ends {
			x.send(e, 1200)
			quiet = quiet && len(e.road) == 0
			x.land(e, x.ends[1-i])
		}
		if quiet {
			checkIdle(x.T, x.ends[0].Table, true)
			checkIdle(x.T, x.ends[1].Table, true)
			return
		}
	}
	x.Fatalf("the sides never rest: %+v", x.limits)
}

// end ends the streams of a side, and lets the other one read all that came.
func (x *talk) end(e, other *talker) {
	for _, id := range slices.Sorted(maps.Keys(e.sends)) {
		if p := e.sends[id]; !p.ended && e.Write(id, nil, true) == api.OK {
			p.ended = true
		}
		x.read(other, e, id, math.MaxInt)
	}
}

// land lets arrive what is on its way.
func (x *talk) land(e, other *talker) {
	for _, s := range e.road {
		if c := other.Hear(s.f); c != 0 {
			x.Fatalf("%s: Hear(%+v) = %d", other.name, s.f, c)
		}
		e.Acked(s.f)
	}
	e.road = nil
}

// check checks that everything arrived.
func (x *talk) check() {
	for i, e := range x.ends {
		other := x.ends[1-i]
		for id, p := range e.sends {
			if !p.done {
				x.Errorf("%s: %d wasn't read up to its end", other.name, id)
			}
			if !p.reset && !bytes.Equal(p.read, p.written) {
				x.Errorf("%s: of %d, %d of %d bytes were read", other.name, id, len(p.read), len(p.written))
			}
		}
		checkStreams(x.T, e.Table, 0)
		checkHeld(x.T, e.Table, 0, 0)
		slices.Sort(e.came)
		if n := len(e.came); len(slices.Compact(e.came)) != n {
			x.Errorf("%s: a stream came twice", e.name)
		}
	}
}

// Whatever happens to the frames of two sides, everything is read that was written, in order, and neither side refuses anything.
func TestExchange(t *testing.T) {
	for seed := range uint64(400) {
		t.Run(fmt.Sprint(seed), func(t *testing.T) {
			x := newTalk(t, seed)
			for range 1500 {
				x.step()
			}
			x.finish()
			x.check()
		})
	}
}
