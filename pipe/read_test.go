package pipe_test

import (
	"math"
	"testing"

	"colonnade/api"
)

func TestRead(t *testing.T) {
	x := sideOf(true, wide)
	hear(t, x, data(2, 0, "abcdef"), last(2, 8, "i"))
	checkRead(t, x, 2, 2, got{p: "ab"})
	checkRead(t, x, 2, 0, got{})
	checkRead(t, x, 2, -1, got{})
	checkRead(t, x, 2, math.MinInt, got{})
	checkRead(t, x, 2, math.MaxInt, got{p: "cdef"})
	checkRead(t, x, 2, 9, got{})
	hear(t, x, data(2, 6, "gh"))
	checkRead(t, x, 2, 2, got{p: "gh"})
	checkRead(t, x, 2, 1, got{p: "i", done: true})
	checkRead(t, x, 2, 1, got{e: api.ErrOver})
	checkRead(t, x, 2, -1, got{e: api.ErrOver})
}

// A part is done only once a Read has returned its end, which may be one of nothing.
func TestReadEnd(t *testing.T) {
	x := sideOf(true, wide)
	hear(t, x, data(2, 0, "abc"))
	checkRead(t, x, 2, 9, got{p: "abc"})
	hear(t, x, last(2, 3, ""))
	checkStreams(t, x, 1)
	checkE(t, "Stop", x.Stop(2, 1), api.OK)
	checkRead(t, x, 2, -5, got{done: true})
	checkStreams(t, x, 0)
	checkRead(t, x, 2, 9, got{e: api.ErrOver})
	hear(t, x, last(6, 0, ""))
	checkRead(t, x, 6, 9, got{done: true})
	checkRead(t, x, 6, 9, got{e: api.ErrOver})
}

func TestReadErrors(t *testing.T) {
	x := sideOf(true, wide)
	own, oneWay := open(t, x, false), open(t, x, true)
	checkRead(t, x, own, 9, got{})
	for _, id := range []uint64{5, 7, 0, 2, top, math.MaxUint64} {
		checkRead(t, x, id, 9, got{e: api.ErrNone})
	}
	checkRead(t, x, oneWay, 9, got{e: api.ErrState})
	write(t, x, oneWay, "a", true)
	ack(x)
	checkRead(t, x, oneWay, 9, got{e: api.ErrState})
	hear(t, x, resetOf(own, 55, 0), resetOf(4, top, 9))
	for range 3 {
		checkRead(t, x, own, 9, got{code: 55, e: api.ErrClosed})
		checkRead(t, x, 4, -1, got{code: top, e: api.ErrClosed})
	}
	checkRead(t, x, 0, 9, got{})
	hear(t, x, last(own, 0, ""))
	checkRead(t, x, own, 9, got{code: 55, e: api.ErrClosed})
}

func TestCame(t *testing.T) {
	x := sideOf(true, wide)
	checkCame(t, x)
	open(t, x, false)
	open(t, x, true)
	checkCame(t, x)
	hear(t, x, data(6, 0, "a"), data(0, 0, "a"), data(2, 0, "a"), data(6, 1, "b"), windowOf(12, 1), last(10, 0, ""))
	checkCame(t, x, 2, 6, 0, 4, 8, 12, 10)
	checkCame(t, x)
	hear(t, x, data(12, 0, "a"), stopOf(4, 1))
	checkCame(t, x)
	// A stream that is over by then came, too.
	hear(t, x, last(14, 0, ""), resetOf(18, 1, 0))
	x.Read(14, 9)
	x.Read(18, 9)
	checkStreams(t, x, 9)
	checkCame(t, x, 14, 18)
	checkCame(t, x)
}
