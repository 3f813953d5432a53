package pipe_test

import (
	"math"
	"slices"
	"testing"

	"colonnade/api"
	"colonnade/pipe"
)

// A sending part is over when it is acknowledged up to its end, or, if it is reset, when that is.
func TestSendingPartIsOver(t *testing.T) {
	x := sideOf(false, wide)
	id := open(t, x, true)
	write(t, x, id, "ab", false)
	ack(x)
	checkStreams(t, x, 1)
	write(t, x, id, "cd", true)
	f := checkFrames(t, x, last(id, 2, "cd"))
	checkStreams(t, x, 1)
	acked(x, f...)
	checkStreams(t, x, 0)

	// All of its bytes are acknowledged, but not that it is reset.
	id = open(t, x, true)
	write(t, x, id, "abc", true)
	f = checkFrames(t, x, last(id, 0, "abc"))
	checkE(t, "Reset", x.Reset(id, 1), api.OK)
	g := checkFrames(t, x, resetOf(id, 1, 3))
	acked(x, f...)
	checkStreams(t, x, 1)
	lost(x, g...)
	g = checkFrames(t, x, resetOf(id, 1, 3))
	acked(x, g...)
	checkStreams(t, x, 0)

	// The other way round.
	id = open(t, x, true)
	write(t, x, id, "abc", true)
	f = checkFrames(t, x, last(id, 0, "abc"))
	hear(t, x, stopOf(id, 1))
	acked(x, checkFrames(t, x, resetOf(id, 1, 3))...)
	checkStreams(t, x, 0)
	acked(x, f...)
	checkStreams(t, x, 0)
	checkIdle(t, x, true)
}

// A receiving part is over when it is done, or when it is reset and Read has said so.
func TestReceivingPartIsOver(t *testing.T) {
	x := sideOf(false, wide)
	hear(t, x, last(3, 0, "abc"))
	checkStreams(t, x, 1)
	x.Read(3, 2)
	checkStreams(t, x, 1)
	x.Read(3, 2)
	checkStreams(t, x, 0)
	hear(t, x, resetOf(7, 1, 9))
	checkStreams(t, x, 1)
	x.Read(7, -1)
	checkStreams(t, x, 0)
}

// A stream with two parts is over when both are, in any order.
func TestStreamIsOver(t *testing.T) {
	sends := []func(x *pipe.Table, id uint64){
		func(x *pipe.Table, id uint64) { x.Write(id, []byte("abc"), true); ack(x) },
		func(x *pipe.Table, id uint64) { x.Reset(id, 1); ack(x) },
		func(x *pipe.Table, id uint64) { x.Hear(stopOf(id, 1)); ack(x) },
	}
	receives := []func(x *pipe.Table, id uint64){
		func(x *pipe.Table, id uint64) { x.Hear(last(id, 0, "abc")); x.Read(id, 9) },
		func(x *pipe.Table, id uint64) { x.Hear(resetOf(id, 1, 1)); x.Read(id, 9) },
	}
	for _, server := range []bool{false, true} {
		for _, send := range sends {
			for _, receive := range receives {
				for _, order := range [][]func(*pipe.Table, uint64){{send, receive}, {receive, send}} {
					x := sideOf(server, wide)
					id := open(t, x, false)
					hear(t, x, data(id^1, 0, ""))
					for i, id := range []uint64{id, id ^ 1} {
						order[0](x, id)
						checkStreams(t, x, 2-i)
						order[1](x, id)
						checkStreams(t, x, 1-i)
					}
					checkFrames(t, x, limitOf(api.StreamsBidi, 101))
					checkE(t, "Write", x.Write(id, nil, false), api.ErrOver)
					checkE(t, "Stop", x.Stop(id, 1), api.ErrOver)
					checkE(t, "Reset", x.Reset(id, 1), api.ErrOver)
				}
			}
		}
	}
}

// A reset of which Read has not told keeps a stream from being over.
func TestResetIsReadFirst(t *testing.T) {
	x := sideOf(true, wide)
	hear(t, x, resetOf(0, 5, 0))
	write(t, x, 0, "abc", true)
	ack(x)
	checkStreams(t, x, 1)
	checkFrames(t, x)
	checkRead(t, x, 0, 9, got{code: 5, e: api.ErrClosed})
	checkStreams(t, x, 0)
	checkFrames(t, x, limitOf(api.StreamsBidi, 101))
}

// Streams that were never named count as soon as they are known.
func TestStreams(t *testing.T) {
	x := sideOf(false, wide)
	checkStreams(t, x, 0)
	open(t, x, false)
	open(t, x, true)
	open(t, x, true)
	checkStreams(t, x, 3)
	hear(t, x, data(13, 0, ""))
	checkStreams(t, x, 7)
	hear(t, x, last(7, 0, ""))
	checkStreams(t, x, 9)
	x.Read(7, 0)
	checkStreams(t, x, 8)
	x.Read(3, 0)
	hear(t, x, last(3, 0, ""))
	x.Read(3, 0)
	checkStreams(t, x, 7)
}

// For each stream of the other side that is over one more is permitted.
func TestOneMore(t *testing.T) {
	x := sideOf(true, pipe.Limits{Window: 10, Credit: 100, Bidi: 1, Uni: 2})
	checkHear(t, x, data(10, 0, ""), api.StreamLimit)
	hear(t, x, last(2, 0, "abc"), last(6, 0, ""))
	x.Read(2, 2)
	checkFrames(t, x)
	checkHear(t, x, data(10, 0, ""), api.StreamLimit)
	x.Read(2, 2)
	f := checkFrames(t, x, limitOf(api.StreamsUni, 3))
	hear(t, x, data(10, 0, ""))
	checkHear(t, x, data(14, 0, ""), api.StreamLimit)
	checkHear(t, x, data(4, 0, ""), api.StreamLimit)
	x.Read(6, 9)
	hear(t, x, resetOf(10, 1, 0))
	x.Read(10, 9)
	acked(x, f...)
	checkFrames(t, x, limitOf(api.StreamsUni, 5))
	checkHear(t, x, data(22, 0, ""), api.StreamLimit)
	hear(t, x, data(18, 0, ""), last(0, 0, ""))
	x.Read(0, 9)
	checkFrames(t, x)
	checkHear(t, x, data(4, 0, ""), api.StreamLimit)
	write(t, x, 0, "", true)
	acked(x, checkFrames(t, x, last(0, 0, ""))...)
	checkFrames(t, x, limitOf(api.StreamsBidi, 2))
	hear(t, x, data(4, 0, ""))
	checkHear(t, x, data(8, 0, ""), api.StreamLimit)
}

// For own streams that are over none are.
func TestOwnStreamsPermitNothing(t *testing.T) {
	x := sideOf(true, pipe.Limits{Window: 10, Credit: 100, Bidi: 1, Uni: 1})
	write(t, x, open(t, x, true), "", true)
	id := open(t, x, false)
	write(t, x, id, "", true)
	ack(x)
	hear(t, x, last(id, 0, ""))
	x.Read(id, 9)
	checkStreams(t, x, 0)
	checkFrames(t, x)
	checkOpen(t, x, true, 0, api.ErrCredit)
	checkOpen(t, x, false, 0, api.ErrCredit)
	checkHear(t, x, data(4, 0, ""), api.StreamLimit)
	checkHear(t, x, data(6, 0, ""), api.StreamLimit)
}

// The limit of a stream is announced only while it is open and its end is not known.
func TestAnnouncedWhileOpen(t *testing.T) {
	l := pipe.Limits{Window: 10, Credit: 100, Uni: 2}
	for _, end := range []api.Frame{last(2, 10, ""), last(2, 12, "abc"), resetOf(2, 1, 12)} {
		x := sideOf(true, l)
		hear(t, x, data(2, 0, repeat(10)))
		x.Read(2, 8)
		hear(t, x, end)
		checkIdle(t, x, true)
		checkFrames(t, x)
	}
	x := sideOf(true, l)
	hear(t, x, last(2, 0, repeat(10)))
	x.Read(2, 8)
	checkIdle(t, x, true)
	checkFrames(t, x)
	x.Read(2, 8)
	checkFrames(t, x, limitOf(api.StreamsUni, 3))
}

func TestNil(t *testing.T) {
	var x *pipe.Table
	x.Peer(wide)
	for _, code := range []uint64{0, top + 1} {
		checkE(t, "Reset", x.Reset(0, code), api.ErrNone)
		checkE(t, "Stop", x.Stop(0, code), api.ErrNone)
	}
	checkOpen(t, x, false, 0, api.ErrNone)
	checkOpen(t, x, true, 0, api.ErrNone)
	checkE(t, "Write", x.Write(0, bytesOf(waiting+1), true), api.ErrNone)
	checkE(t, "Rank", x.Rank(0, pipe.Rank{}), api.ErrNone)
	checkRead(t, x, 0, 9, got{e: api.ErrNone})
	for _, f := range slices.Concat(streamKinds(0), []api.Frame{{}, limitOf(api.MaxData, 1), {Kind: math.MaxUint64}}) {
		checkHear(t, x, f, 0)
		x.Lost(f)
		x.Acked(f)
	}
	checkFrames(t, x)
	checkCame(t, x)
	checkIdle(t, x, true)
	checkHeld(t, x, 0, 0)
	checkStreams(t, x, 0)
}
