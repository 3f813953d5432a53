package pipe_test

import (
	"math"
	"testing"

	"colonnade/api"
	"colonnade/frame"
	"colonnade/pipe"
)

// busy returns a server with something to send of each kind, and what that is.
func busy(t *testing.T) (*pipe.Table, []api.Frame) {
	x := sideOf(true, pipe.Limits{Window: 10, Credit: 100, Bidi: 9, Uni: 9})
	a, b := open(t, x, false), open(t, x, false)
	write(t, x, a, "c", true)
	write(t, x, b, "d", false)
	hear(t, x, data(8, 0, repeat(9)), data(2, 0, repeat(9)), data(0, 0, repeat(9)), data(10, 0, repeat(10)), data(6, 0, repeat(10)), last(16, 0, ""), last(14, 0, ""))
	for _, id := range []uint64{10, 8, 2, 6, 0} {
		x.Read(id, 9)
	}
	hear(t, x, resetOf(18, 1, 10))
	x.Read(14, 0)
	write(t, x, 16, "", true)
	checkE(t, "Stop", x.Stop(12, 3), api.OK)
	checkE(t, "Stop", x.Stop(4, 2), api.OK)
	checkE(t, "Reset", x.Reset(12, 5), api.OK)
	checkE(t, "Reset", x.Reset(4, 4), api.OK)
	return x, []api.Frame{
		limitOf(api.MaxData, 155),
		windowOf(0, 19), windowOf(2, 19), windowOf(6, 19), windowOf(8, 19), windowOf(10, 19),
		limitOf(api.StreamsUni, 10),
		resetOf(4, 4, 0), resetOf(12, 5, 0),
		stopOf(4, 2), stopOf(12, 3),
		last(a, 0, "c"), data(b, 0, "d"), last(16, 0, ""),
	}
}

func TestFramesOrder(t *testing.T) {
	x, want := busy(t)
	f := checkFrames(t, x, want...)
	acked(x, f...)
	x.Read(16, 0)
	checkFrames(t, x, limitOf(api.StreamsBidi, 10))
}

// With little room at a time the same is sent, and nothing but that.
func TestFramesWithLittleRoom(t *testing.T) {
	for room := 9; room <= 60; room++ {
		x, want := busy(t)
		left := map[string]bool{}
		for _, f := range want {
			left[code(f)] = true
		}
		for range 30 {
			for _, f := range checkRoom(t, x, room) {
				if !left[code(f)] {
					t.Fatalf("room %d: %+v", room, f)
				}
				delete(left, code(f))
			}
		}
		if len(left) > 0 {
			t.Errorf("room %d: %d frames weren't sent", room, len(left))
		}
	}
}

func code(f api.Frame) string {
	p, _ := frame.Bytes(f)
	return string(p)
}

func checkRoom(t *testing.T, x *pipe.Table, room int) []api.Frame {
	t.Helper()
	l := x.Frames(room)
	if n := sizeOf(l...); n > max(room, 0) {
		t.Fatalf("Frames(%d): %d bytes: %+v", room, n, l)
	}
	return l
}

// A frame without stream data that has no room is left out, and sent when it has.
func TestNoticesNeedRoom(t *testing.T) {
	x := sideOf(false, wide)
	a, b := open(t, x, true), open(t, x, true)
	checkE(t, "Reset", x.Reset(a, top), api.OK)
	write(t, x, b, "a", false)
	f := resetOf(a, top, 0)
	checkFramesIn(t, x, sizeOf(f)-1, data(b, 0, "a"))
	write(t, x, b, "b", false)
	checkFramesIn(t, x, sizeOf(f), f)
	checkFrames(t, x, data(b, 1, "b"))
}

func TestFramesWithoutRoom(t *testing.T) {
	for _, room := range []int{math.MinInt, math.MinInt + 1, -1200, -1, 0, 1} {
		x, want := busy(t)
		checkFramesIn(t, x, room)
		checkFrames(t, x, want...)
	}
}

// A frame has as much data as there is room for. Lengths above 63 take two bytes.
func TestFramesFillRoom(t *testing.T) {
	for _, x := range []struct{ room, want int }{
		{3, 0}, {4, 1}, {5, 2}, {65, 62}, {66, 63}, {67, 63}, {68, 64}, {69, 65}, {1000, 996}, {1203, 1199}, {1204, 1200},
	} {
		side := sideOf(false, wide)
		id := open(t, side, true)
		write(t, side, id, repeat(1500), true)
		if x.want == 0 {
			checkFramesIn(t, side, x.room)
		} else {
			checkFramesIn(t, side, x.room, data(id, 0, repeat(x.want)))
		}
	}
	// With an offset of two bytes.
	side := sideOf(false, wide)
	id := open(t, side, true)
	write(t, side, id, repeat(64), false)
	ack(side)
	write(t, side, id, repeat(100), true)
	checkFramesIn(t, side, 5)
	checkFramesIn(t, side, 6, data(id, 64, "x"))
	checkFramesIn(t, side, 69, data(id, 65, repeat(63)))
	checkFramesIn(t, side, 40, data(id, 128, repeat(35)))
	checkFramesIn(t, side, 6, last(id, 163, "x"))
	checkFramesIn(t, side, 99)
}

// No frame has more data than layer 5 encodes.
func TestFramesOfMuchRoom(t *testing.T) {
	x := sideOf(false, wide)
	id := open(t, x, true)
	write(t, x, id, repeat(3000), true)
	checkFramesIn(t, x, math.MaxInt, data(id, 0, repeat(1200)), data(id, 1200, repeat(1200)), last(id, 2400, repeat(600)))
	checkFramesIn(t, x, math.MaxInt)
}

func TestEndNeedsRoom(t *testing.T) {
	x := sideOf(false, wide)
	id := open(t, x, true)
	write(t, x, id, "", true)
	checkFramesIn(t, x, 2)
	checkFramesIn(t, x, 3, last(id, 0, ""))
}

// What has no room isn't overtaken by a stream of a larger rank, or a larger ID.
func TestNoOvertaking(t *testing.T) {
	x := sideOf(false, wide)
	var ids []uint64
	for range 20 {
		ids = append(ids, open(t, x, true))
	}
	first, second := ids[19], ids[0]
	write(t, x, first, "ab", true)
	write(t, x, second, "c", true)
	x.Rank(second, pipe.Rank{0, 0, 1})
	checkFramesIn(t, x, 4)
	checkFramesIn(t, x, 5, data(first, 0, "a"))
	checkFramesIn(t, x, 5)
	checkFramesIn(t, x, 99, last(first, 1, "b"), last(second, 0, "c"))
}

// Nothing is sent beyond the limits of the other side, whichever is reached; the streams that reached theirs are passed over.
func TestFramesWithinLimits(t *testing.T) {
	x := sideOf(true, pipe.Limits{Window: 5, Credit: 12, Bidi: 9, Uni: 9})
	a, b, c := open(t, x, false), open(t, x, true), open(t, x, true)
	for _, id := range []uint64{a, b, c} {
		write(t, x, id, "abcdefgh", true)
	}
	f := checkFrames(t, x, data(a, 0, "abcde"), data(b, 0, "abcde"), data(c, 0, "ab"))
	checkFrames(t, x)
	// What is lost was paid.
	lost(x, f...)
	checkFrames(t, x, f...)
	hear(t, x, windowOf(b, 8))
	checkFrames(t, x)
	hear(t, x, limitOf(api.MaxData, 14))
	checkFrames(t, x, data(b, 5, "fg"))
	hear(t, x, limitOf(api.MaxData, 100))
	checkFrames(t, x, last(b, 7, "h"), data(c, 2, "cde"))
	hear(t, x, windowOf(a, 7), windowOf(c, 99))
	checkFrames(t, x, data(a, 5, "fg"), last(c, 5, "fgh"))
	// The end costs nothing.
	hear(t, x, windowOf(a, 8))
	checkFrames(t, x, last(a, 7, "h"))
	d := open(t, x, true)
	write(t, x, d, "abcde", false)
	checkFrames(t, x, data(d, 0, "abcde"))
	write(t, x, d, "", true)
	checkFrames(t, x, last(d, 5, ""))
}

func TestLostFirst(t *testing.T) {
	x := sideOf(false, wide)
	id := open(t, x, true)
	write(t, x, id, "0123456789ab", false)
	var f []api.Frame
	for i := range 4 {
		f = append(f, checkFramesIn(t, x, 5+min(i, 1), data(id, uint64(i*2), "0123456789ab"[i*2:i*2+2]))...)
	}
	lost(x, f[3], f[1])
	checkFrames(t, x, data(id, 2, "23"), data(id, 6, "67"), data(id, 8, "89ab"))
	// Those that lie beside each other are one piece, and may be cut in others than before.
	write(t, x, id, "cd", true)
	lost(x, f[2])
	lost(x, data(id, 2, "23"))
	checkFramesIn(t, x, 7, data(id, 2, "234"))
	checkFrames(t, x, data(id, 5, "5"), last(id, 12, "cd"))
	acked(x, f[0], data(id, 2, "234"), data(id, 6, "67"), data(id, 8, "89ab"), last(id, 12, "cd"))
	checkHeld(t, x, 0, 9)
	lost(x, data(id, 5, "5"))
	acked(x, checkFrames(t, x, data(id, 5, "5"))...)
	checkIdle(t, x, true)
	checkStreams(t, x, 0)
}

// The streams go by their ranks also if one has lost something, and the other has not.
func TestLostAndRank(t *testing.T) {
	x := sideOf(false, wide)
	a, b := open(t, x, true), open(t, x, true)
	write(t, x, b, "ab", false)
	lost(x, checkFrames(t, x, data(b, 0, "ab"))...)
	write(t, x, a, "cd", false)
	write(t, x, b, "ef", false)
	checkFrames(t, x, data(a, 0, "cd"), data(b, 0, "ab"), data(b, 2, "ef"))
}

func TestLostEnd(t *testing.T) {
	x := sideOf(false, wide)
	id := open(t, x, true)
	write(t, x, id, "abc", true)
	lost(x, checkFrames(t, x, last(id, 0, "abc"))...)
	checkFramesIn(t, x, 5, data(id, 0, "ab"))
	lost(x, checkFrames(t, x, last(id, 2, "c"))...)
	acked(x, checkFrames(t, x, last(id, 2, "c"))...)
	checkStreams(t, x, 1)
	acked(x, data(id, 0, "ab"))
	checkStreams(t, x, 0)

	id = open(t, x, true)
	write(t, x, id, "abc", false)
	f := checkFrames(t, x, data(id, 0, "abc"))
	write(t, x, id, "", true)
	lost(x, checkFrames(t, x, last(id, 3, ""))...)
	g := checkFrames(t, x, last(id, 3, ""))
	acked(x, f...)
	checkHeld(t, x, 0, 0)
	checkStreams(t, x, 1)
	lost(x, g...)
	acked(x, checkFrames(t, x, last(id, 3, ""))...)
	checkStreams(t, x, 0)
	checkIdle(t, x, true)
}

// The end is acknowledged before the bytes below it.
func TestEndAcknowledgedFirst(t *testing.T) {
	x := sideOf(false, wide)
	id := open(t, x, true)
	write(t, x, id, "abc", false)
	f := checkFrames(t, x, data(id, 0, "abc"))
	write(t, x, id, "", true)
	acked(x, checkFrames(t, x, last(id, 3, ""))...)
	checkHeld(t, x, 0, 3)
	checkStreams(t, x, 1)
	lost(x, f...)
	g := x.Frames(99)
	if len(g) != 1 || g[0].Off != 0 || string(g[0].Data) != "abc" {
		t.Fatalf("%+v", g)
	}
	acked(x, g...)
	checkHeld(t, x, 0, 0)
	checkStreams(t, x, 0)
	checkFrames(t, x)
}

// An end that one frame has brought isn't sent again when another one with it is lost.
func TestEndAcknowledgedByAnother(t *testing.T) {
	x := sideOf(false, wide)
	id := open(t, x, true)
	write(t, x, id, "ab", false)
	f := checkFrames(t, x, data(id, 0, "ab"))
	write(t, x, id, "c", false)
	g := checkFrames(t, x, data(id, 2, "c"))
	write(t, x, id, "", true)
	h := checkFrames(t, x, last(id, 3, ""))
	lost(x, g...)
	g = x.Frames(99)
	if len(g) != 1 || g[0].Off != 2 || string(g[0].Data) != "c" || !g[0].Fin {
		t.Fatalf("%+v", g)
	}
	acked(x, g...)
	lost(x, h...)
	checkFrames(t, x)
	acked(x, f...)
	checkStreams(t, x, 0)
	checkIdle(t, x, true)
}

// A frame that isn't in flight is neither lost nor acknowledged.
func TestNotInFlight(t *testing.T) {
	x := sideOf(false, wide)
	id := open(t, x, false)
	write(t, x, id, "abcdef", true)
	for range 2 {
		for _, call := range []func(api.Frame){x.Lost, x.Acked} {
			for _, f := range []api.Frame{{}, last(id, 0, "abcdef"), data(id, 0, "abcdef"), last(id, 0, ""), data(id, 0, ""), last(id, 6, ""), data(id, 99, "x"), last(id, top, "x"), data(4, 0, "x"), data(math.MaxUint64, math.MaxUint64, "x"), resetOf(id, 0, 0), resetOf(id, 9, 0), stopOf(id, 0), stopOf(math.MaxUint64, 9), windowOf(id, 1<<20), limitOf(api.MaxData, 1<<24), limitOf(api.StreamsBidi, 100), limitOf(api.StreamsUni, 100), {Kind: api.Ping}, {Kind: math.MaxUint64}} {
				call(f)
			}
		}
		checkHeld(t, x, 0, 6)
		checkStreams(t, x, 1)
	}
	f := checkFramesIn(t, x, 7, data(id, 0, "abcd"))
	for range 3 {
		lost(x, f...)
	}
	acked(x, f...)
	g := checkFrames(t, x, data(id, 0, "abcd"), last(id, 4, "ef"))
	acked(x, last(id, 0, "abcd"), data(id, 4, "ef"), data(id, 0, "abc"))
	lost(x, last(id, 0, "abcd"), data(id, 4, "ef"), data(id, 0, "abc"))
	checkFrames(t, x)
	checkHeld(t, x, 0, 6)
	for range 3 {
		acked(x, g...)
	}
	lost(x, g...)
	checkHeld(t, x, 0, 0)
	checkFrames(t, x)
	checkIdle(t, x, true)
}

// The final size of a reset is what was sent, not what was written.
func TestResetSize(t *testing.T) {
	x := sideOf(false, wide)
	id := open(t, x, true)
	write(t, x, id, "abcdefgh", true)
	f := checkFramesIn(t, x, 8, data(id, 0, "abcde"))
	lost(x, f...)
	checkFramesIn(t, x, 5, data(id, 0, "ab"))
	checkE(t, "Reset", x.Reset(id, 3), api.OK)
	g := checkFrames(t, x, resetOf(id, 3, 5))
	lost(x, g...)
	checkFrames(t, x, resetOf(id, 3, 5))
}

// A reset is sent again until it is acknowledged.
func TestLostReset(t *testing.T) {
	x := sideOf(false, wide)
	id := open(t, x, false)
	checkE(t, "Reset", x.Reset(id, 3), api.OK)
	for range 3 {
		lost(x, checkFrames(t, x, resetOf(id, 3, 0))...)
	}
	acked(x, checkFrames(t, x, resetOf(id, 3, 0))...)
	checkFrames(t, x)
	checkIdle(t, x, true)
	checkStreams(t, x, 1)
}

// To stop is asked for again as long as the receiving part is open.
func TestLostStop(t *testing.T) {
	x := sideOf(false, wide)
	for i, ends := range []func(id uint64){
		func(id uint64) { hear(t, x, last(id, 0, "abc")); x.Read(id, 9) },
		func(id uint64) { hear(t, x, resetOf(id, 9, 3)) },
	} {
		id := uint64(8*i + 1)
		hear(t, x, data(id, 0, "a"), data(id+4, 0, "a"))
		checkE(t, "Stop", x.Stop(id, 3), api.OK)
		for range 3 {
			lost(x, checkFrames(t, x, stopOf(id, 3))...)
		}
		f := checkFrames(t, x, stopOf(id, 3))
		checkE(t, "Stop", x.Stop(id+4, 4), api.OK)
		ends(id)
		ends(id + 4)
		checkIdle(t, x, false)
		lost(x, f...)
		checkIdle(t, x, true)
		checkFrames(t, x)
	}
}

// Limits are announced when so much was read that less than half a window is left.
func TestAnnouncing(t *testing.T) {
	x := sideOf(true, pipe.Limits{Window: 10, Credit: 20, Uni: 9})
	hear(t, x, data(2, 0, repeat(10)), data(6, 0, repeat(10)))
	x.Read(2, 5)
	checkFrames(t, x)
	x.Read(2, 1)
	checkFrames(t, x, windowOf(2, 16))
	x.Read(6, 4)
	checkFrames(t, x)
	x.Read(6, 1)
	checkFrames(t, x, limitOf(api.MaxData, 31))
	x.Read(6, 1)
	checkFrames(t, x, windowOf(6, 16))
	// One frame tells what several calls have changed.
	hear(t, x, data(2, 10, repeat(6)))
	x.Read(2, 9)
	x.Read(6, 9)
	hear(t, x, data(6, 10, repeat(5)))
	checkFrames(t, x, limitOf(api.MaxData, 45), windowOf(2, 25))
	x.Read(6, 9)
	hear(t, x, data(6, 15, "x"))
	x.Read(6, 9)
	checkFrames(t, x, windowOf(6, 25))
	x.Read(6, 9)
	x.Read(2, 9)
	checkFrames(t, x)
}

// What a reset discards counts as read, also what never came.
func TestResetAnnounces(t *testing.T) {
	x := sideOf(true, pipe.Limits{Window: 20, Credit: 20, Uni: 9})
	hear(t, x, data(2, 0, "abcd"), data(6, 0, "abcd"))
	x.Read(2, 1)
	hear(t, x, resetOf(2, 1, 10))
	checkFrames(t, x)
	hear(t, x, resetOf(2, 1, 10), data(2, 0, "abcd"))
	checkFrames(t, x)
	hear(t, x, resetOf(6, 1, 4))
	checkFrames(t, x, limitOf(api.MaxData, 34))
	hear(t, x, resetOf(6, 1, 4))
	x.Read(6, 9)
	x.Read(2, 9)
	checkFrames(t, x, limitOf(api.StreamsUni, 11))
}

// A limit that is lost is announced as it is then.
func TestLostLimits(t *testing.T) {
	x := sideOf(true, pipe.Limits{Window: 10, Credit: 10, Bidi: 3, Uni: 3})
	hear(t, x, data(2, 0, repeat(10)))
	x.Read(2, 6)
	f := checkFrames(t, x, limitOf(api.MaxData, 16), windowOf(2, 16))
	lost(x, f...)
	f = checkFrames(t, x, limitOf(api.MaxData, 16), windowOf(2, 16))
	hear(t, x, data(2, 10, repeat(6)))
	x.Read(2, 99)
	lost(x, f...)
	f = checkFrames(t, x, limitOf(api.MaxData, 26), windowOf(2, 26))
	acked(x, f...)
	checkIdle(t, x, true)

	// The same limit may be in flight twice.
	hear(t, x, data(2, 16, repeat(10)))
	x.Read(2, 6)
	f = checkFrames(t, x, limitOf(api.MaxData, 32), windowOf(2, 32))
	x.Read(2, 99)
	hear(t, x, data(2, 26, repeat(6)))
	x.Read(2, 99)
	g := checkFrames(t, x, limitOf(api.MaxData, 42), windowOf(2, 42))
	lost(x, f...)
	checkFrames(t, x, g...)
	acked(x, g...)
	checkIdle(t, x, false)
	acked(x, g...)
	checkIdle(t, x, true)

	hear(t, x, last(6, 0, ""), last(4, 0, ""))
	x.Read(6, 9)
	x.Read(4, 9)
	write(t, x, 4, "", true)
	acked(x, last(4, 0, ""))
	f = checkFrames(t, x, limitOf(api.StreamsUni, 4), last(4, 0, ""))
	acked(x, f[1])
	hear(t, x, last(10, 0, ""))
	x.Read(10, 9)
	lost(x, f[0])
	f = checkFrames(t, x, limitOf(api.StreamsBidi, 4), limitOf(api.StreamsUni, 5))
	for range 2 {
		lost(x, f...)
		f = checkFrames(t, x, f...)
	}
	acked(x, f...)
	checkIdle(t, x, true)
}

// The limit of a stream is of no use once its end is known.
func TestLostWindow(t *testing.T) {
	for _, end := range []api.Frame{last(2, 16, ""), resetOf(2, 1, 16), last(2, 10, "abcdef")} {
		x := sideOf(true, pipe.Limits{Window: 10, Credit: 100, Uni: 2})
		hear(t, x, data(2, 0, repeat(10)))
		x.Read(2, 6)
		f := checkFrames(t, x, windowOf(2, 16))
		hear(t, x, end)
		lost(x, f...)
		checkIdle(t, x, true)
		checkFrames(t, x)
	}
}

func TestIdle(t *testing.T) {
	x := sideOf(true, pipe.Limits{Window: 4, Credit: 100, Bidi: 3, Uni: 3})
	checkIdle(t, x, true)
	id := open(t, x, false)
	checkIdle(t, x, true)
	write(t, x, id, "", false)
	checkIdle(t, x, true)
	write(t, x, id, "abcdef", true)
	checkIdle(t, x, false)
	f := checkFrames(t, x, data(id, 0, "abcd"))
	checkIdle(t, x, false)
	lost(x, f...)
	checkIdle(t, x, false)
	acked(x, checkFrames(t, x, f...)...)
	// What may not be sent does not count.
	checkIdle(t, x, true)
	hear(t, x, windowOf(id, 6))
	checkIdle(t, x, false)
	acked(x, checkFrames(t, x, last(id, 4, "ef"))...)
	checkIdle(t, x, true)
	hear(t, x, data(0, 0, "abcd"))
	checkIdle(t, x, true)
	x.Read(0, 9)
	checkIdle(t, x, false)
	acked(x, checkFrames(t, x, windowOf(0, 8))...)
	checkIdle(t, x, true)
	checkE(t, "Stop", x.Stop(0, 1), api.OK)
	checkIdle(t, x, false)
	ack(x)
	checkE(t, "Reset", x.Reset(0, 1), api.OK)
	checkIdle(t, x, false)
	ack(x)
	checkIdle(t, x, true)
	hear(t, x, last(0, 4, ""))
	x.Read(0, 1)
	checkIdle(t, x, false)
	acked(x, checkFrames(t, x, limitOf(api.StreamsBidi, 4))...)
	checkIdle(t, x, true)
	// What is lost when its stream is over is of no use.
	id = open(t, x, true)
	write(t, x, id, "ab", false)
	f = checkFrames(t, x, data(id, 0, "ab"))
	checkE(t, "Reset", x.Reset(id, 1), api.OK)
	ack(x)
	checkStreams(t, x, 1)
	checkIdle(t, x, false)
	lost(x, f...)
	checkIdle(t, x, true)
}

func TestHeld(t *testing.T) {
	x := sideOf(true, wide)
	checkHeld(t, x, 0, 0)
	id := open(t, x, false)
	write(t, x, id, "abcdef", false)
	checkHeld(t, x, 0, 6)
	f := checkFramesIn(t, x, 5, data(id, 0, "ab"))
	g := checkFrames(t, x, data(id, 2, "cdef"))
	acked(x, g...)
	checkHeld(t, x, 0, 6)
	hear(t, x, data(id, 2, "cd"), data(2, 0, "ab"), data(id, 3, "de"))
	checkHeld(t, x, 5, 6)
	acked(x, f...)
	checkHeld(t, x, 5, 0)
	write(t, x, id, "gh", true)
	checkHeld(t, x, 5, 2)
	x.Read(id, 9)
	x.Read(2, 1)
	checkHeld(t, x, 4, 2)
	ack(x)
	hear(t, x, resetOf(id, 1, 9))
	checkHeld(t, x, 1, 0)
}
