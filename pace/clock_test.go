package pace_test

import (
	"math"
	"testing"

	"colonnade/api"
	"colonnade/pace"
)

const maxTick = api.MaxTick

// told is what a clock tells: latest, minimum, smoothed value, variation.
type told [4]uint64

// sampled returns a clock with samples: pairs of the sample and its delay.
func sampled(l ...[2]uint64) *pace.Clock {
	c := pace.NewClock()
	for _, x := range l {
		c.Sample(x[0], x[1])
	}
	return c
}

func checkClock(t *testing.T, c *pace.Clock, what any, want told) {
	t.Helper()
	latest, least, smooth, vary := c.Told()
	if got := (told{latest, least, smooth, vary}); got != want {
		t.Errorf("%v: Told = %v; want %v", what, got, want)
	}
}

func TestSample(t *testing.T) {
	for _, x := range []struct {
		samples [][2]uint64
		want    told
	}{
		{nil, told{0, 0, 10, 5}},
		// The first sample; its delay does not matter.
		{[][2]uint64{{20, 0}}, told{20, 20, 20, 10}},
		{[][2]uint64{{20, 15}}, told{20, 20, 20, 10}},
		{[][2]uint64{{20, 99}}, told{20, 20, 20, 10}},
		{[][2]uint64{{21, 0}}, told{21, 21, 21, 10}},
		{[][2]uint64{{1, 0}}, told{1, 1, 1, 0}},
		{[][2]uint64{{0, 0}}, told{0, 0, 0, 0}},
		// The second sample: the variation is worked out before the smoothed value, and both are rounded down.
		{[][2]uint64{{20, 0}, {28, 0}}, told{28, 20, 21, 9}},
		{[][2]uint64{{20, 0}, {100, 0}}, told{100, 20, 30, 27}},
		{[][2]uint64{{20, 0}, {20, 0}}, told{20, 20, 20, 7}},
		{[][2]uint64{{20, 0}, {12, 0}}, told{12, 12, 19, 9}},
		{[][2]uint64{{20, 0}, {0, 0}}, told{0, 0, 17, 12}},
		// A first sample of 0 was one, too.
		{[][2]uint64{{0, 0}, {16, 0}}, told{16, 0, 2, 4}},
		{[][2]uint64{{0, 0}, {7, 0}}, told{7, 0, 0, 1}},
		// The delay is subtracted if the sample is at least the minimum plus the delay.
		{[][2]uint64{{20, 0}, {28, 3}}, told{28, 20, 20, 8}},
		{[][2]uint64{{20, 0}, {26, 5}}, told{26, 20, 20, 7}},
		{[][2]uint64{{20, 0}, {25, 5}}, told{25, 20, 20, 7}},
		{[][2]uint64{{20, 0}, {24, 5}}, told{24, 20, 20, 8}},
		{[][2]uint64{{20, 0}, {12, 4}}, told{12, 12, 19, 9}},
		{[][2]uint64{{20, 0}, {60, 40}}, told{60, 20, 20, 7}},
		{[][2]uint64{{20, 0}, {60, 41}}, told{60, 20, 25, 17}},
		// The minimum is that of all samples before any delay is subtracted.
		{[][2]uint64{{20, 0}, {10, 0}, {16, 6}}, told{16, 10, 17, 9}},
		{[][2]uint64{{10, 0}, {20, 0}, {16, 6}}, told{16, 10, 10, 4}},
		{[][2]uint64{{20, 0}, {10, 0}, {16, 7}}, told{16, 10, 17, 8}},
	} {
		checkClock(t, sampled(x.samples...), x.samples, x.want)
	}
}

// Values above MaxTick count as MaxTick.
func TestSampleOfTooMuch(t *testing.T) {
	for _, big := range []uint64{maxTick, maxTick + 1, api.MaxNum, 1 << 63, math.MaxUint64} {
		checkClock(t, sampled([2]uint64{big, 0}), big, told{maxTick, maxTick, maxTick, maxTick / 2})
		checkClock(t, sampled([2]uint64{big, big}), big, told{maxTick, maxTick, maxTick, maxTick / 2})
		checkClock(t, sampled([2]uint64{big, 0}, [2]uint64{big, 0}), big, told{maxTick, maxTick, maxTick, 3 * (maxTick / 2) / 4})
		checkClock(t, sampled([2]uint64{0, 0}, [2]uint64{big, 0}), big, told{maxTick, 0, maxTick / 8, maxTick / 4})
		// As MaxTick, the delay is just what is above the minimum of 0, and too much for one of 5.
		checkClock(t, sampled([2]uint64{0, 0}, [2]uint64{maxTick, big}), big, told{maxTick, 0, 0, 0})
		checkClock(t, sampled([2]uint64{5, 0}, [2]uint64{maxTick, big}), big, told{maxTick, 5, (35 + maxTick) / 8, (6 + maxTick - 5) / 4})
		checkClock(t, sampled([2]uint64{20, 0}, [2]uint64{28, big}), big, told{28, 20, 21, 9})
	}
	checkClock(t, sampled([2]uint64{maxTick - 1, 0}), "just below", told{maxTick - 1, maxTick - 1, maxTick - 1, maxTick/2 - 1})
}

// Samples that stay the same are the smoothed value in the end, and the variation ends.
func TestSteadySamples(t *testing.T) {
	c := sampled([2]uint64{1000, 0})
	for range 100 {
		c.Sample(400, 0)
	}
	if latest, least, smooth, vary := c.Told(); latest != 400 || least != 400 || smooth < 400 || smooth > 407 || vary > 7 {
		t.Errorf("Told = %d, %d, %d, %d", latest, least, smooth, vary)
	}
}

func TestWait(t *testing.T) {
	for _, x := range []struct {
		samples [][2]uint64
		want    uint64
	}{
		{nil, 32},
		{[][2]uint64{{20, 0}}, 62},
		{[][2]uint64{{20, 0}, {28, 0}}, 59},
		{[][2]uint64{{2, 0}}, 8},
		// Four times the variation is at least 1.
		{[][2]uint64{{1, 0}}, 4},
		{[][2]uint64{{0, 0}}, 3},
		{[][2]uint64{{maxTick, 0}}, 3*maxTick + 2},
	} {
		c := sampled(x.samples...)
		latest, least, smooth, vary := c.Told()
		for tries, doubled := range map[int]int{math.MinInt: 0, -1: 0, 0: 0, 1: 1, 2: 2, 19: 19, 20: 20, 21: 20, 64: 20, math.MaxInt: 20} {
			want := x.want
			for range doubled {
				want *= 2
			}
			if n := c.Wait(tries); n != want {
				t.Errorf("%v: Wait(%d) = %d; want %d", x.samples, tries, n, want)
			}
		}
		checkClock(t, c, "after Wait", told{latest, least, smooth, vary})
	}
}

func TestClockLost(t *testing.T) {
	for _, x := range []struct {
		samples [][2]uint64
		want    uint64
	}{
		{nil, 11},
		{[][2]uint64{{0, 0}}, 1},
		{[][2]uint64{{1, 0}}, 1},
		{[][2]uint64{{7, 0}}, 7},
		{[][2]uint64{{8, 0}}, 9},
		{[][2]uint64{{20, 0}}, 22},
		// The latest sample is larger, then the smoothed value, which is 27.
		{[][2]uint64{{20, 0}, {28, 0}}, 31},
		{[][2]uint64{{28, 0}, {20, 0}}, 30},
		// The latest sample is what it was before the delay was subtracted.
		{[][2]uint64{{20, 0}, {40, 20}}, 45},
		{[][2]uint64{{0, 0}, {7, 0}}, 7},
		{[][2]uint64{{math.MaxUint64, 0}}, maxTick + maxTick/8},
	} {
		c := sampled(x.samples...)
		if n := c.Lost(); n != x.want || c.Lost() != n {
			t.Errorf("%v: Lost = %d; want %d", x.samples, n, x.want)
		}
	}
}

// Clocks are apart from each other.
func TestClocks(t *testing.T) {
	a, b := pace.NewClock(), pace.NewClock()
	a.Sample(100, 0)
	checkClock(t, b, "the other one", told{0, 0, 10, 5})
	b.Sample(20, 0)
	checkClock(t, a, "the first one", told{100, 100, 100, 50})
}

func TestNilClock(t *testing.T) {
	var c *pace.Clock
	for _, n := range []uint64{0, 1, 20, maxTick, math.MaxUint64} {
		c.Sample(n, 0)
		c.Sample(n, n)
		checkClock(t, c, "nil", told{})
	}
	for _, tries := range []int{math.MinInt, -1, 0, 1, 20, math.MaxInt} {
		if n := c.Wait(tries); n != 0 {
			t.Errorf("Wait(%d) = %d of nil", tries, n)
		}
	}
	if n := c.Lost(); n != 0 {
		t.Errorf("Lost = %d of nil", n)
	}
}
