package pipe_test

import (
	"fmt"
	"math"
	"strings"
	"testing"

	"colonnade/api"
	"colonnade/pipe"
)

func TestExamples(t *testing.T) {
	x := sideOf(false, wide)
	checkOpen(t, x, false, 0, api.OK)
	checkOpen(t, x, true, 2, api.OK)
	checkOpen(t, x, true, 6, api.OK)
	checkHear(t, x, data(2, 0, "a"), api.StreamState)
	checkHear(t, x, last(3, 0, "abcde"), 0)
	checkHear(t, x, data(3, 0, "abcdef"), api.FinalSize)
}

// streamKinds are one frame of each kind that names a stream.
func streamKinds(id uint64) []api.Frame {
	return []api.Frame{data(id, 0, "a"), resetOf(id, 1, 1), stopOf(id, 1), windowOf(id, 1)}
}

// Each side has opened one stream of each type, and permits two.
func TestStreamStateAndLimit(t *testing.T) {
	const (
		state = api.StreamState
		limit = api.StreamLimit
	)
	for _, x := range []struct {
		what string
		id   uint64    // at a client
		want [4]uint64 // Stream, ResetStream, StopSending, MaxStreamData
	}{
		{"own, bidirectional", 0, [4]uint64{}},
		{"own, unidirectional", 2, [4]uint64{state, state, 0, 0}},
		{"own, bidirectional, not open", 4, [4]uint64{state, state, state, state}},
		{"own, unidirectional, not open", 6, [4]uint64{state, state, state, state}},
		{"own, far away", top &^ 3, [4]uint64{state, state, state, state}},
		{"the other side's, bidirectional", 1, [4]uint64{}},
		{"the other side's, unidirectional", 3, [4]uint64{0, 0, state, state}},
		{"the other side's, bidirectional, not known", 5, [4]uint64{}},
		{"the other side's, unidirectional, not known", 7, [4]uint64{0, 0, state, state}},
		{"the other side's, bidirectional, not permitted", 9, [4]uint64{limit, limit, limit, limit}},
		{"the other side's, unidirectional, not permitted", 11, [4]uint64{limit, limit, state, state}},
		{"the other side's, bidirectional, the last one", top &^ 2, [4]uint64{limit, limit, limit, limit}},
		{"the other side's, unidirectional, the last one", top, [4]uint64{limit, limit, state, state}},
	} {
		for i, want := range x.want {
			for _, server := range []bool{false, true} {
				id := x.id
				if server {
					id ^= 1
				}
				side := sideOf(server, pipe.Limits{Window: 9, Credit: 9, Bidi: 2, Uni: 2})
				open(t, side, false)
				open(t, side, true)
				f := streamKinds(id)[i]
				if c := side.Hear(f); c != want {
					t.Errorf("%s: Hear(%+v), server %t: %d; want %d", x.what, f, server, c, want)
				}
			}
		}
	}
}

// A refused frame changes nothing.
func TestRefusedFrames(t *testing.T) {
	x := sideOf(true, pipe.Limits{Window: 10, Credit: 15, Bidi: 3, Uni: 3})
	checkHear(t, x, data(12, 0, "a"), api.StreamLimit)
	checkHear(t, x, data(8, 0, repeat(11)), api.FlowControl)
	checkHear(t, x, data(8, 11, ""), api.FlowControl)
	checkHear(t, x, resetOf(10, 1, 11), api.FlowControl)
	checkHear(t, x, windowOf(2, 1), api.StreamState)
	checkHear(t, x, stopOf(1, 1), api.StreamState)
	checkCame(t, x)
	checkStreams(t, x, 0)
	checkIdle(t, x, true)

	hear(t, x, data(0, 0, "abc"))
	checkHear(t, x, last(0, 1, "z"), api.FinalSize)
	checkHear(t, x, last(0, 8, "xyz"), api.FlowControl)
	checkHear(t, x, resetOf(0, 1, 2), api.FinalSize)
	checkHear(t, x, resetOf(0, 1, 11), api.FlowControl)
	checkHeld(t, x, 3, 0)
	checkStreams(t, x, 1)
	checkRead(t, x, 0, 9, got{p: "abc"})
	hear(t, x, data(4, 0, repeat(10)), data(8, 0, "xy"))
	checkHear(t, x, data(8, 2, "x"), api.FlowControl)
	checkHeld(t, x, 12, 0)
}

func TestFinalSize(t *testing.T) {
	const bad = api.FinalSize
	for _, x := range []struct {
		what string
		at   []api.Frame // before
		f    api.Frame
		want uint64
	}{
		{"up to the end", []api.Frame{last(3, 0, "abcde")}, data(3, 0, "abcde"), 0},
		{"beyond the end", []api.Frame{last(3, 0, "abcde")}, data(3, 5, "f"), bad},
		{"nothing beyond the end", []api.Frame{last(3, 0, "abcde")}, data(3, 6, ""), bad},
		{"nothing at the end", []api.Frame{last(3, 0, "abcde")}, data(3, 5, ""), 0},
		{"the same end", []api.Frame{last(3, 0, "abcde")}, last(3, 2, "cde"), 0},
		{"a later end", []api.Frame{last(3, 0, "abcde")}, last(3, 0, "abcdef"), bad},
		{"an earlier end", []api.Frame{last(3, 5, "")}, last(3, 0, "abcd"), bad},
		{"an end below what was received", []api.Frame{data(3, 3, "de")}, last(3, 0, "abcd"), bad},
		{"an end below an empty piece", []api.Frame{data(3, 5, "")}, last(3, 0, "abcd"), bad},
		{"an end at what was received", []api.Frame{data(3, 3, "de")}, last(3, 5, ""), 0},
		{"a reset at the end", []api.Frame{last(3, 0, "abcde")}, resetOf(3, 1, 5), 0},
		{"a reset beyond the end", []api.Frame{last(3, 0, "abcde")}, resetOf(3, 1, 6), bad},
		{"a reset before the end", []api.Frame{last(3, 5, "")}, resetOf(3, 1, 4), bad},
		{"a reset below what was received", []api.Frame{data(3, 3, "de")}, resetOf(3, 1, 4), bad},
		{"a reset at what was received", []api.Frame{data(3, 3, "de")}, resetOf(3, 1, 5), 0},
		{"after a reset, up to its size", []api.Frame{resetOf(3, 1, 5)}, data(3, 3, "de"), 0},
		{"after a reset, the same end", []api.Frame{resetOf(3, 1, 5)}, last(3, 3, "de"), 0},
		{"after a reset, beyond", []api.Frame{resetOf(3, 1, 5)}, data(3, 3, "def"), bad},
		{"after a reset, an earlier end", []api.Frame{resetOf(3, 1, 5)}, last(3, 3, "d"), bad},
		{"a reset again", []api.Frame{resetOf(3, 1, 5)}, resetOf(3, 2, 5), 0},
		{"another reset beyond", []api.Frame{resetOf(3, 1, 5)}, resetOf(3, 1, 6), bad},
		{"another reset below", []api.Frame{resetOf(3, 1, 5)}, resetOf(3, 1, 4), bad},
		{"beyond the end and all limits", []api.Frame{last(3, 0, "abcde")}, data(3, 500, "f"), bad},
		{"an end below what was received, of another stream", []api.Frame{data(3, 3, "de")}, last(7, 0, "abcd"), 0},
	} {
		for _, read := range []bool{false, true} {
			side := sideOf(false, pipe.Limits{Window: 10, Credit: 100, Uni: 2})
			hear(t, side, x.at...)
			if read {
				side.Read(3, 9)
			}
			if c := side.Hear(x.f); c != x.want {
				t.Errorf("%s, read %t: Hear(%+v) = %d; want %d", x.what, read, x.f, c, x.want)
			}
		}
	}
}

// What the size of a stream was counts also when the stream is over.
func TestFinalSizeWhenOver(t *testing.T) {
	for _, end := range []api.Frame{last(3, 0, "abcde"), resetOf(3, 9, 5)} {
		x := sideOf(false, wide)
		hear(t, x, end)
		x.Read(3, 9)
		checkStreams(t, x, 0)
		hear(t, x, data(3, 2, "cde"), last(3, 2, "cde"), resetOf(3, 1, 5))
		for _, f := range []api.Frame{data(3, 6, ""), last(3, 0, "abcd"), resetOf(3, 1, 4), resetOf(3, 1, 6)} {
			checkHear(t, x, f, api.FinalSize)
		}
		checkStreams(t, x, 0)
		checkHeld(t, x, 0, 0)
	}
}

func TestStreamFlowControl(t *testing.T) {
	for _, x := range []struct {
		f    api.Frame
		want uint64
	}{
		{data(3, 0, repeat(10)), 0},
		{data(3, 0, repeat(11)), api.FlowControl},
		{data(3, 9, "x"), 0},
		{data(3, 10, "x"), api.FlowControl},
		{data(3, 10, ""), 0},
		{data(3, 11, ""), api.FlowControl},
		{last(3, 11, ""), api.FlowControl},
		{last(3, 10, ""), 0},
		{resetOf(3, 1, 10), 0},
		{resetOf(3, 1, 11), api.FlowControl},
		{resetOf(3, 1, top), api.FlowControl},
		{data(3, top-1, "x"), api.FlowControl},
	} {
		checkHear(t, sideOf(false, pipe.Limits{Window: 10, Credit: 1000, Uni: 1}), x.f, x.want)
	}
}

// The total counts each stream up to the end of what was received, also where there are gaps.
func TestCommonFlowControl(t *testing.T) {
	for _, x := range []struct {
		f    api.Frame
		want uint64
	}{
		{data(11, 0, repeat(4)), 0},
		{data(11, 0, repeat(5)), api.FlowControl},
		{data(11, 4, ""), 0},
		{data(11, 5, ""), api.FlowControl},
		{resetOf(11, 1, 4), 0},
		{resetOf(11, 1, 5), api.FlowControl},
		{data(3, 0, repeat(14)), 0},
		{data(3, 0, repeat(15)), api.FlowControl},
		{data(7, 0, repeat(3)), 0},
	} {
		side := sideOf(false, pipe.Limits{Window: 100, Credit: 20, Uni: 3})
		hear(t, side, data(3, 9, "x"), data(3, 2, "abc"), data(3, 9, "x"), resetOf(7, 0, 6))
		// 16 of 20 were received. The 6 of the reset count as read, which is too early for a new limit.
		checkHear(t, side, x.f, x.want)
	}
}

// What is read, and what a reset discards, may come again.
func TestFlowControlAfterReading(t *testing.T) {
	x := sideOf(false, pipe.Limits{Window: 10, Credit: 10, Uni: 9})
	hear(t, x, data(3, 0, repeat(10)))
	checkHear(t, x, data(7, 0, "x"), api.FlowControl)
	x.Read(3, 5)
	checkHear(t, x, data(7, 0, "x"), api.FlowControl)
	checkHear(t, x, data(3, 10, "x"), api.FlowControl)
	x.Read(3, 1)
	hear(t, x, data(7, 0, repeat(6)))
	checkHear(t, x, data(7, 6, "x"), api.FlowControl)
	hear(t, x, resetOf(7, 1, 6))
	hear(t, x, data(3, 10, repeat(6)))
	checkHear(t, x, data(3, 16, "x"), api.FlowControl)
}

// Frames of all other kinds have no effect.
func TestOtherKinds(t *testing.T) {
	x := sideOf(true, wide)
	id := open(t, x, false)
	write(t, x, id, "abc", false)
	f := checkFrames(t, x, data(id, 0, "abc"))
	for _, g := range []api.Frame{
		{Kind: api.Padding, N: 1},
		{Kind: api.Padding, N: 1201},
		{Kind: api.Padding, N: math.MaxUint64},
		{Kind: api.Ping},
		{Kind: api.Ack, Ranges: []api.Range{{To: 9}}},
		{Kind: api.Crypto, Data: []byte("x")},
		{Kind: api.NewToken, Data: []byte("x")},
		{Kind: api.DataBlocked, N: 1},
		{Kind: api.StreamBlocked, ID: 4, N: 1},
		{Kind: api.BidiBlocked, N: 1},
		{Kind: api.UniBlocked, N: 1},
		{Kind: api.RetireID},
		{Kind: api.PathChallenge, Data: bytesOf(8)},
		{Kind: api.Close},
		{Kind: api.CloseApp},
		{Kind: api.HandshakeDone},
		{Kind: api.Datagram, Data: []byte("x")},
		{Kind: 9, ID: 4, Data: []byte("x")},
		{Kind: 0x32},
		{Kind: math.MaxUint64},
	} {
		checkHear(t, x, g, 0)
	}
	checkCame(t, x)
	checkStreams(t, x, 1)
	acked(x, f...)
	checkIdle(t, x, true)
}

// Frames that are invalid have no effect, even if they would be refused otherwise.
func TestInvalidFrames(t *testing.T) {
	x := sideOf(true, pipe.Limits{Window: 10, Credit: 10, Bidi: 1, Uni: 1})
	for _, f := range []api.Frame{
		{Kind: api.Stream, Code: 1},
		{Kind: api.Stream, N: 1},
		{Kind: api.Stream, Token: []byte{1}},
		{Kind: api.Stream, Ranges: []api.Range{{}}},
		{Kind: api.Stream, Ranges: make([]api.Range, 99)},
		{Kind: api.Stream, ID: top + 1},
		{Kind: api.Stream, ID: 4, Code: 1},
		{Kind: api.Stream, Off: top + 1},
		{Kind: api.Stream, Off: top, Data: []byte("x")},
		{Kind: api.Stream, Off: math.MaxUint64, Data: []byte("x")},
		{Kind: api.Stream, Off: math.MaxUint64 - 1, Data: []byte("xy")},
		{Kind: api.Stream, Off: top - 1200, Data: bytesOf(1201)},
		{Kind: api.Stream, Code: 1, Data: bytesOf(1201)},
		{Kind: api.ResetStream, N: 1},
		{Kind: api.ResetStream, Fin: true},
		{Kind: api.ResetStream, Data: []byte("x")},
		{Kind: api.ResetStream, Data: bytesOf(1201)},
		{Kind: api.ResetStream, Code: top + 1},
		{Kind: api.ResetStream, Off: top + 1},
		{Kind: api.StopSending, Off: 1},
		{Kind: api.StopSending, Code: top + 1},
		{Kind: api.StopSending, ID: math.MaxUint64},
		{Kind: api.MaxStreamData, Off: 1},
		{Kind: api.MaxStreamData, N: top + 1},
		{Kind: api.MaxData, ID: 1, N: 100},
		{Kind: api.MaxData, N: top + 1},
		{Kind: api.StreamsBidi, N: most + 1},
		{Kind: api.StreamsBidi, N: 100, Fin: true},
		{Kind: api.StreamsUni, N: most + 1},
		{Kind: api.StreamsUni, N: 100, Data: bytesOf(1201)},
	} {
		checkHear(t, x, f, 0)
	}
	checkCame(t, x)
	checkStreams(t, x, 0)
	checkIdle(t, x, true)
	open(t, x, true)
	checkOpen(t, x, true, 0, api.ErrCredit)
	open(t, x, false)
	checkOpen(t, x, false, 0, api.ErrCredit)
	write(t, x, 1, repeat(20), false)
	checkFrames(t, x, data(1, 0, repeat(10)))
}

func TestMuchData(t *testing.T) {
	x := sideOf(true, wide)
	p := bytesOf(100000)
	hear(t, x, api.Frame{Kind: api.Stream, Data: p[:1201]}, api.Frame{Kind: api.Stream, Off: 1000, Data: p[1000:], Fin: true})
	checkRead(t, x, 0, math.MaxInt, got{p: string(p), done: true})
}

// Of a byte that is received more than once, the first value counts.
func TestHearStream(t *testing.T) {
	x := sideOf(true, wide)
	hear(t, x, data(0, 2, "cd"))
	checkHeld(t, x, 2, 0)
	checkRead(t, x, 0, 9, got{})
	hear(t, x, data(0, 0, "abx"), last(0, 4, "e"), data(0, 0, "zzzzz"))
	checkHeld(t, x, 5, 0)
	checkRead(t, x, 0, 9, got{p: "abcde", done: true})
	hear(t, x, data(0, 0, "abcde"))
	checkHeld(t, x, 0, 0)
}

func TestHearResetStream(t *testing.T) {
	x := sideOf(true, wide)
	hear(t, x, data(2, 0, "abc"), data(2, 5, "f"), resetOf(2, 77, 9))
	checkHeld(t, x, 0, 0)
	hear(t, x, data(2, 0, "abcdefghi"), resetOf(2, 78, 9))
	checkHeld(t, x, 0, 0)
	checkRead(t, x, 2, 9, got{code: 77, e: api.ErrClosed})
	hear(t, x, resetOf(2, 78, 9))
	checkRead(t, x, 2, 9, got{code: 77, e: api.ErrClosed})
	// All of it was received, but not read up to its end.
	hear(t, x, last(6, 0, "abc"))
	checkRead(t, x, 6, 2, got{p: "ab"})
	hear(t, x, resetOf(6, top, 3))
	checkRead(t, x, 6, 2, got{code: top, e: api.ErrClosed})
	// A part that is done stays so.
	hear(t, x, last(10, 0, "abc"))
	checkRead(t, x, 10, 3, got{p: "abc", done: true})
	hear(t, x, resetOf(10, 5, 3))
	checkRead(t, x, 10, 3, got{e: api.ErrOver})
	// One of which nothing was received.
	hear(t, x, resetOf(14, 0, 0))
	checkRead(t, x, 14, 3, got{e: api.ErrClosed})
}

func TestHearStopSending(t *testing.T) {
	x := sideOf(true, wide)
	// Open, and nothing was sent.
	hear(t, x, stopOf(0, 7))
	checkE(t, "Write", x.Write(0, nil, false), api.ErrOver)
	checkE(t, "Reset", x.Reset(0, 1), api.ErrOver)
	l := checkFrames(t, x, resetOf(0, 7, 0))
	hear(t, x, stopOf(0, 8))
	checkFrames(t, x)
	lost(x, l...)
	checkFrames(t, x, resetOf(0, 7, 0))
	// Ended, and not completely acknowledged.
	id := open(t, x, true)
	write(t, x, id, "abc", true)
	checkFrames(t, x, last(id, 0, "abc"))
	hear(t, x, stopOf(id, top))
	checkHeld(t, x, 0, 0)
	checkFrames(t, x, resetOf(id, top, 3))
	// Only its end isn't acknowledged.
	id = open(t, x, true)
	write(t, x, id, "abc", false)
	ack(x)
	write(t, x, id, "", true)
	checkFrames(t, x, last(id, 3, ""))
	hear(t, x, stopOf(id, 9))
	checkFrames(t, x, resetOf(id, 9, 3))
	// Everything is acknowledged: it is over, or open.
	id = open(t, x, false)
	write(t, x, id, "abc", true)
	ack(x)
	hear(t, x, stopOf(id, 10))
	checkFrames(t, x)
	id = open(t, x, false)
	write(t, x, id, "abc", false)
	ack(x)
	hear(t, x, stopOf(id, 11))
	checkFrames(t, x, resetOf(id, 11, 3))
}

func TestHearLimits(t *testing.T) {
	x := sideOf(true, pipe.Limits{Window: 5, Credit: 8, Bidi: 1, Uni: 1})
	a, b := open(t, x, false), open(t, x, true)
	write(t, x, a, "0123456789", false)
	write(t, x, b, "abcdefghij", false)
	checkFrames(t, x, data(a, 0, "01234"), data(b, 0, "abc"))
	hear(t, x, limitOf(api.MaxData, 8), limitOf(api.MaxData, 0), windowOf(a, 5), windowOf(a, 0))
	checkFrames(t, x)
	hear(t, x, limitOf(api.MaxData, 9), limitOf(api.MaxData, 8))
	checkFrames(t, x, data(b, 3, "d"))
	hear(t, x, limitOf(api.MaxData, top))
	checkFrames(t, x, data(b, 4, "e"))
	hear(t, x, windowOf(b, 7), windowOf(b, 6))
	checkFrames(t, x, data(b, 5, "fg"))
	hear(t, x, windowOf(a, top))
	checkFrames(t, x, data(a, 5, "56789"))

	for i, kind := range []uint64{api.StreamsBidi, api.StreamsUni} {
		hear(t, x, limitOf(kind, 1), limitOf(kind, 0))
		checkOpen(t, x, i == 1, 0, api.ErrCredit)
		hear(t, x, limitOf(kind, 2), limitOf(kind, 1))
		open(t, x, i == 1)
		checkOpen(t, x, i == 1, 0, api.ErrCredit)
		hear(t, x, limitOf(kind, most))
		open(t, x, i == 1)
	}
}

// A frame of any of these kinds makes the stream known, and those of smaller numbers.
func TestHearMakesKnown(t *testing.T) {
	for i, f := range streamKinds(9) {
		x := sideOf(false, wide)
		hear(t, x, f)
		checkCame(t, x, 1, 5, 9)
		checkStreams(t, x, 3)
		for _, id := range []uint64{1, 5, 9} {
			checkE(t, fmt.Sprint("Rank ", i), x.Rank(id, pipe.Rank{}), api.OK)
		}
		checkE(t, "Rank", x.Rank(13, pipe.Rank{}), api.ErrNone)
		checkE(t, "Rank", x.Rank(3, pipe.Rank{}), api.ErrNone)
	}
	for _, f := range streamKinds(10)[:2] {
		x := sideOf(true, wide)
		hear(t, x, f)
		checkCame(t, x, 2, 6, 10)
	}
}

// A side may permit more streams than there is memory for.
func TestManyStreams(t *testing.T) {
	for _, n := range []uint64{most, most + 1, top, math.MaxUint64} {
		x := sideOf(false, pipe.Limits{Window: 9, Credit: 9, Bidi: n, Uni: n})
		hear(t, x, last(top, 0, "abc"), last(top-2, 0, "d"))
		checkStreams(t, x, 1<<61)
		checkRead(t, x, top, 9, got{p: "abc", done: true})
		checkRead(t, x, top-2, 9, got{p: "d", done: true})
		checkRead(t, x, 1<<40|3, 9, got{})
		write(t, x, top-2, "", true)
		checkStreams(t, x, 1<<61-1)
		acked(x, checkFrames(t, x, last(top-2, 0, ""))...)
		checkStreams(t, x, 1<<61-2)
		// No more than all can be permitted.
		checkFrames(t, x)
	}
}

// What is handed over is not changed and not kept.
func TestMemory(t *testing.T) {
	x, y := sideOf(false, wide), sideOf(true, wide)
	id := open(t, x, false)
	p := []byte("abcdefgh")
	checkE(t, "Write", x.Write(id, p[:4], false), api.OK)
	if string(p) != "abcdefgh" {
		t.Errorf("Write changed %q", p)
	}
	copy(p, "zzzzzzzz")
	f := checkFrames(t, x, data(id, 0, "abcd"))[0]
	hear(t, y, f)
	spoil(f.Data)
	lost(x, f)
	g := checkFrames(t, x, data(id, 0, "abcd"))[0]
	write(t, x, id, "efgh", true)
	spoil(g.Data)
	hear(t, y, checkFrames(t, x, last(id, 4, "efgh"))...)
	q, _, _, _ := y.Read(id, 2)
	spoil(q)
	checkRead(t, y, id, 9, got{p: "cdefgh", done: true})
	hear(t, y, data(8, 0, ""))
	spoilIDs(y.Came())
	hear(t, y, data(16, 0, ""))
	checkCame(t, y, 12, 16)
}

func spoil(p []byte) {
	copy(p[:cap(p)], strings.Repeat("!", cap(p)))
}

func spoilIDs(l []uint64) {
	for i := range l[:cap(l)] {
		l[:cap(l)][i] = 99
	}
}
