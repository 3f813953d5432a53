package pipe_test

import (
	"math"
	"testing"

	"colonnade/api"
	"colonnade/pipe"
)

func TestOpen(t *testing.T) {
	for _, x := range []struct {
		server, uni bool
		want        []uint64
	}{
		{false, false, []uint64{0, 4, 8}},
		{true, false, []uint64{1, 5, 9}},
		{false, true, []uint64{2, 6, 10}},
		{true, true, []uint64{3, 7, 11}},
	} {
		side := pipe.New(x.server, wide)
		checkOpen(t, side, x.uni, 0, api.ErrCredit)
		side.Peer(pipe.Limits{Bidi: 3, Uni: 3})
		for i, id := range x.want {
			checkE(t, "Rank before", side.Rank(id, pipe.Rank{}), api.ErrNone)
			checkOpen(t, side, x.uni, id, api.OK)
			checkE(t, "Rank after", side.Rank(id, pipe.Rank{}), api.OK)
			checkStreams(t, side, i+1)
		}
		checkOpen(t, side, x.uni, 0, api.ErrCredit)
		checkStreams(t, side, 3)
		checkCame(t, side)
		checkOpen(t, side, !x.uni, x.want[0]^2, api.OK)
	}
}

// What a side permits is not what it may open itself.
func TestPeer(t *testing.T) {
	x := pipe.New(false, wide)
	hear(t, x, data(1, 0, "a"))
	write(t, x, 1, "abcdef", true)
	checkFrames(t, x)
	checkIdle(t, x, true)
	x.Peer(pipe.Limits{Window: 4, Credit: 6, Bidi: 1})
	checkFrames(t, x, data(1, 0, "abcd"))
	checkOpen(t, x, true, 0, api.ErrCredit)
	id := open(t, x, false)
	write(t, x, id, "ghijk", false)
	checkFrames(t, x, data(id, 0, "gh"))
	// Limits only grow.
	x.Peer(pipe.Limits{Window: 3, Credit: 14, Uni: 1})
	checkFrames(t, x, data(id, 2, "ij"))
	checkOpen(t, x, false, 0, api.ErrCredit)
	id = open(t, x, true)
	write(t, x, id, "lmnop", false)
	checkFrames(t, x, data(id, 0, "lmno"))
	x.Peer(pipe.Limits{Window: math.MaxUint64, Credit: math.MaxUint64, Bidi: math.MaxUint64, Uni: math.MaxUint64})
	checkFrames(t, x, data(0, 4, "k"), last(1, 4, "ef"), data(id, 4, "p"))
	open(t, x, false)
	open(t, x, true)
}

// Limits of the other side that come before Peer count, too.
func TestLimitsBeforePeer(t *testing.T) {
	x := pipe.New(false, wide)
	hear(t, x, limitOf(api.MaxData, 5), limitOf(api.StreamsUni, 1), windowOf(1, 3))
	write(t, x, 1, "abcdef", false)
	checkFrames(t, x, data(1, 0, "abc"))
	id := open(t, x, true)
	write(t, x, id, "ghi", false)
	checkFrames(t, x)
	x.Peer(pipe.Limits{Window: 4, Credit: 4})
	checkFrames(t, x, data(1, 3, "d"), data(id, 0, "g"))
}

func TestWrite(t *testing.T) {
	x := sideOf(false, wide)
	id := open(t, x, true)
	write(t, x, id, "", false)
	checkFrames(t, x)
	write(t, x, id, "ab", false)
	write(t, x, id, "", false)
	write(t, x, id, "cd", false)
	checkHeld(t, x, 0, 4)
	checkFrames(t, x, data(id, 0, "abcd"))
	write(t, x, id, "ef", true)
	checkFrames(t, x, last(id, 4, "ef"))
	checkHeld(t, x, 0, 6)
	id = open(t, x, false)
	write(t, x, id, "", true)
	checkFrames(t, x, last(id, 0, ""))
	id = open(t, x, false)
	write(t, x, id, "xyz", false)
	write(t, x, id, "", true)
	checkFrames(t, x, last(id, 0, "xyz"))
	id = open(t, x, false)
	write(t, x, id, "xyz", false)
	checkFrames(t, x, data(id, 0, "xyz"))
	write(t, x, id, "", true)
	checkFrames(t, x, last(id, 3, ""))
}

func TestWriteErrors(t *testing.T) {
	x := sideOf(true, wide)
	long := bytesOf(waiting + 1)
	hear(t, x, last(2, 0, "a"), data(4, 0, "a"))
	for _, id := range []uint64{1, 3, 8, 6, top, math.MaxUint64} {
		checkE(t, "not known", x.Write(id, long, true), api.ErrNone)
	}
	checkE(t, "no sending part", x.Write(2, long, true), api.ErrState)
	x.Read(2, 9)
	checkE(t, "no sending part, over", x.Write(2, nil, false), api.ErrState)
	for _, id := range []uint64{0, 4} {
		checkE(t, "too much", x.Write(id, long, true), api.ErrFull)
		write(t, x, id, "a", true)
		checkE(t, "ended", x.Write(id, long, true), api.ErrOver)
		checkE(t, "ended, nothing", x.Write(id, nil, false), api.ErrOver)
	}
	ack(x)
	hear(t, x, last(4, 1, ""))
	x.Read(4, 9)
	checkStreams(t, x, 1)
	checkE(t, "over", x.Write(4, long, false), api.ErrOver)
	id := open(t, x, true)
	checkE(t, "Reset", x.Reset(id, 1), api.OK)
	checkE(t, "reset", x.Write(id, long, false), api.ErrOver)
	ack(x)
	checkE(t, "reset and over", x.Write(id, long, false), api.ErrOver)
}

// All bytes from the first unacknowledged one on wait.
func TestWriteFull(t *testing.T) {
	x := sideOf(false, wide)
	id := open(t, x, true)
	checkE(t, "one too many", x.Write(id, bytesOf(waiting+1), false), api.ErrFull)
	checkE(t, "far too many", x.Write(id, bytesOf(1<<20), true), api.ErrFull)
	checkHeld(t, x, 0, 0)
	checkE(t, "as many as there may be", x.Write(id, bytesOf(waiting), false), api.OK)
	checkE(t, "none more", x.Write(id, nil, false), api.OK)
	checkE(t, "one more", x.Write(id, []byte("x"), false), api.ErrFull)
	checkE(t, "one more and the end", x.Write(id, []byte("x"), true), api.ErrFull)
	f := x.Frames(3000)
	if len(f) != 3 {
		t.Fatalf("%d frames", len(f))
	}
	checkE(t, "all in flight", x.Write(id, []byte("x"), false), api.ErrFull)
	acked(x, f[1])
	checkHeld(t, x, 0, waiting)
	checkE(t, "the first is not acknowledged", x.Write(id, []byte("x"), false), api.ErrFull)
	acked(x, f[0])
	n := len(f[0].Data) + len(f[1].Data)
	checkHeld(t, x, 0, waiting-n)
	checkE(t, "one more than were acknowledged", x.Write(id, bytesOf(n+1), false), api.ErrFull)
	checkE(t, "as many as were acknowledged", x.Write(id, bytesOf(n), true), api.OK)
	other := open(t, x, true)
	checkE(t, "another stream", x.Write(other, bytesOf(waiting), false), api.OK)
	checkHeld(t, x, 0, 2*waiting)
}

func TestReset(t *testing.T) {
	x := sideOf(true, wide)
	hear(t, x, data(2, 0, "a"), data(0, 0, "a"))
	for _, code := range []uint64{top + 1, math.MaxUint64} {
		for _, id := range []uint64{0, 2, 1, 4, math.MaxUint64} {
			checkE(t, "code", x.Reset(id, code), api.ErrArg)
		}
	}
	for _, id := range []uint64{1, 3, 4, 6, math.MaxUint64} {
		checkE(t, "not known", x.Reset(id, top), api.ErrNone)
	}
	checkE(t, "no sending part", x.Reset(2, top), api.ErrState)
	checkFrames(t, x)
	// Nothing was sent.
	checkE(t, "Reset", x.Reset(0, top), api.OK)
	checkE(t, "again", x.Reset(0, top), api.ErrOver)
	checkE(t, "with another code", x.Reset(0, 1), api.ErrOver)
	f := checkFrames(t, x, resetOf(0, top, 0))
	checkE(t, "when it is sent", x.Reset(0, 1), api.ErrOver)
	acked(x, f...)
	checkE(t, "when that is acknowledged", x.Reset(0, 1), api.ErrOver)
	checkFrames(t, x)
}

// A part can be reset until everything is acknowledged, which it is not before its end is.
func TestResetWhenAcknowledged(t *testing.T) {
	x := sideOf(true, wide)
	id := open(t, x, false)
	write(t, x, id, "abc", false)
	ack(x)
	checkE(t, "all that was written", x.Reset(id, 1), api.OK)
	id = open(t, x, false)
	write(t, x, id, "abc", false)
	ack(x)
	write(t, x, id, "", true)
	checkFrames(t, x, last(id, 3, ""))
	checkE(t, "all but the end", x.Reset(id, 2), api.OK)
	id = open(t, x, false)
	write(t, x, id, "abc", false)
	checkFrames(t, x, resetOf(5, 2, 3), data(id, 0, "abc"))
	write(t, x, id, "", true)
	acked(x, checkFrames(t, x, last(id, 3, ""))...)
	checkE(t, "the end only", x.Reset(id, 3), api.OK)
	id = open(t, x, false)
	write(t, x, id, "abc", true)
	ack(x)
	checkE(t, "all", x.Reset(id, 4), api.ErrOver)
	id = open(t, x, true)
	write(t, x, id, "", true)
	ack(x)
	checkE(t, "all, which is the end", x.Reset(id, 5), api.ErrOver)
}

// Nothing of a part that is reset is sent any more, also what is lost.
func TestNothingAfterReset(t *testing.T) {
	x := sideOf(false, pipe.Limits{Window: 5, Credit: 99, Uni: 9})
	id := open(t, x, true)
	write(t, x, id, "abcdefgh", true)
	f := checkFramesIn(t, x, 6, data(id, 0, "abc"))
	g := checkFrames(t, x, data(id, 3, "de"))
	lost(x, f...)
	checkHeld(t, x, 0, 8)
	checkE(t, "Reset", x.Reset(id, 9), api.OK)
	checkHeld(t, x, 0, 0)
	hear(t, x, windowOf(id, 100))
	r := checkFrames(t, x, resetOf(id, 9, 5))
	lost(x, g...)
	checkFrames(t, x)
	checkIdle(t, x, false)
	lost(x, r...)
	checkIdle(t, x, false)
	acked(x, checkFrames(t, x, resetOf(id, 9, 5))...)
	checkIdle(t, x, true)
	checkStreams(t, x, 0)
}

func TestStop(t *testing.T) {
	x := sideOf(true, wide)
	own, oneWay := open(t, x, false), open(t, x, true)
	hear(t, x, data(2, 0, "a"), data(0, 0, "a"))
	for _, code := range []uint64{top + 1, math.MaxUint64} {
		for _, id := range []uint64{own, oneWay, 0, 5, math.MaxUint64} {
			checkE(t, "code", x.Stop(id, code), api.ErrArg)
		}
	}
	for _, id := range []uint64{5, 7, 4, 6, math.MaxUint64} {
		checkE(t, "not known", x.Stop(id, top), api.ErrNone)
	}
	checkE(t, "no receiving part", x.Stop(oneWay, top), api.ErrState)
	checkFrames(t, x)
	for i, id := range []uint64{own, 2, 0} {
		checkE(t, "Stop", x.Stop(id, uint64(i)), api.OK)
		checkE(t, "again", x.Stop(id, 9), api.ErrOver)
	}
	f := checkFrames(t, x, stopOf(0, 2), stopOf(own, 0), stopOf(2, 1))
	checkE(t, "when it is sent", x.Stop(0, 9), api.ErrOver)
	acked(x, f...)
	checkE(t, "when that is acknowledged", x.Stop(0, 9), api.ErrOver)
	checkFrames(t, x)
	// What comes nevertheless can be read.
	hear(t, x, data(0, 1, "bc"))
	checkRead(t, x, 0, 9, got{p: "abc"})
}

func TestStopWhenNotOpen(t *testing.T) {
	x := sideOf(true, wide)
	hear(t, x, last(2, 0, "abc"))
	checkE(t, "ended, not read", x.Stop(2, 1), api.OK)
	checkFrames(t, x, stopOf(2, 1))
	hear(t, x, last(6, 0, "abc"))
	x.Read(6, 3)
	checkE(t, "done", x.Stop(6, 1), api.ErrOver)
	hear(t, x, resetOf(10, 5, 3))
	checkE(t, "reset", x.Stop(10, 1), api.ErrOver)
	x.Read(10, 3)
	checkE(t, "reset, and read", x.Stop(10, 1), api.ErrOver)
	checkFrames(t, x, limitOf(api.StreamsUni, 102))
}

func TestRank(t *testing.T) {
	x := sideOf(false, wide)
	checkE(t, "not open", x.Rank(0, pipe.Rank{1}), api.ErrNone)
	a, b, c := open(t, x, true), open(t, x, true), open(t, x, true)
	hear(t, x, data(5, 0, ""))
	for _, id := range []uint64{0, 14, 3, 9, math.MaxUint64} {
		checkE(t, "not known", x.Rank(id, pipe.Rank{}), api.ErrNone)
	}
	for _, id := range []uint64{a, b, c, 1, 5} {
		write(t, x, id, "x", true)
	}
	checkE(t, "Rank", x.Rank(a, pipe.Rank{0, 0, 1}), api.OK)
	checkE(t, "Rank", x.Rank(1, pipe.Rank{0, 1}), api.OK)
	checkE(t, "Rank", x.Rank(c, pipe.Rank{0, 0, math.MaxUint64}), api.OK)
	checkE(t, "Rank", x.Rank(5, pipe.Rank{math.MaxUint64, 0, 0}), api.OK)
	f := checkFrames(t, x, last(b, 0, "x"), last(a, 0, "x"), last(c, 0, "x"), last(1, 0, "x"), last(5, 0, "x"))
	checkE(t, "another one", x.Rank(5, pipe.Rank{}), api.OK)
	lost(x, f...)
	acked(x, checkFrames(t, x, last(5, 0, "x"), last(b, 0, "x"), last(a, 0, "x"), last(c, 0, "x"), last(1, 0, "x"))...)
	checkE(t, "over", x.Rank(a, pipe.Rank{}), api.OK)
	checkE(t, "no sending part", sideWithUni(t).Rank(3, pipe.Rank{}), api.OK)
}

// sideWithUni returns a client that knows a unidirectional stream of the other side.
func sideWithUni(t *testing.T) *pipe.Table {
	x := sideOf(false, wide)
	hear(t, x, data(3, 0, ""))
	return x
}
