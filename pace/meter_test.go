package pace_test

import (
	"math"
	"math/rand/v2"
	"testing"

	"colonnade/api"
	"colonnade/pace"
)

const mostBytes = 1 << 30

// checkMeter checks the window, the threshold and the bytes in flight, and the room that follows from them.
func checkMeter(t *testing.T, m *pace.Meter, what string, window int, threshold uint64, flight int) {
	t.Helper()
	if w, l, f := m.Told(); w != window || l != threshold || f != flight {
		t.Errorf("%s: Told = %d, %d, %d; want %d, %d, %d", what, w, l, f, window, threshold, flight)
	}
	if n := m.Room(); n != max(0, window-flight) {
		t.Errorf("%s: Room = %d of %d, %d", what, n, window, flight)
	}
}

// isError checks an error.
func isError(t *testing.T, what string, e, want api.Errno) {
	t.Helper()
	if e != want {
		t.Errorf("%s: error %d; want %d", what, e, want)
	}
}

// loaded returns a meter with so many packets of MaxPacket bytes in flight.
func loaded(t *testing.T, packets int) *pace.Meter {
	t.Helper()
	m := pace.NewMeter()
	for range packets {
		isError(t, "Send", m.Send(api.MaxPacket), api.OK)
	}
	return m
}

func TestSend(t *testing.T) {
	m := pace.NewMeter()
	checkMeter(t, m, "New", 12000, api.MaxNum, 0)
	isError(t, "Send of nothing", m.Send(0), api.OK)
	checkMeter(t, m, "Send of nothing", 12000, api.MaxNum, 0)
	isError(t, "Send", m.Send(1), api.OK)
	isError(t, "Send", m.Send(1200), api.OK)
	checkMeter(t, m, "Send", 12000, api.MaxNum, 1201)
	// The window is no bound of what is sent.
	checkMeter(t, loaded(t, 9), "9 packets", 12000, api.MaxNum, 10800)
	checkMeter(t, loaded(t, 10), "10 packets", 12000, api.MaxNum, 12000)
	checkMeter(t, loaded(t, 11), "11 packets", 12000, api.MaxNum, 13200)
}

func TestSlowStart(t *testing.T) {
	m := loaded(t, 3)
	isError(t, "Acked", m.Acked(1200, 0), api.OK)
	checkMeter(t, m, "without a recovery, 0 counts", 13200, api.MaxNum, 2400)
	isError(t, "Acked", m.Acked(7, math.MaxUint64), api.OK)
	checkMeter(t, m, "7 bytes", 13207, api.MaxNum, 2393)
	isError(t, "Acked", m.Acked(0, 3), api.OK)
	checkMeter(t, m, "nothing", 13207, api.MaxNum, 2393)
	m.Acked(1200, 3)
	m.Acked(1193, 3)
	checkMeter(t, m, "all", 15600, api.MaxNum, 0)
}

func TestLost(t *testing.T) {
	m := loaded(t, 1)
	isError(t, "Lost", m.Lost(1200, 1, 5), api.OK)
	checkMeter(t, m, "the example", 6000, 6000, 0)
	// What is lost need not have bytes.
	m = loaded(t, 1)
	isError(t, "Lost", m.Lost(0, 1, 5), api.OK)
	checkMeter(t, m, "nothing is lost", 6000, 6000, 1200)
	// An odd window.
	m = loaded(t, 1)
	m.Acked(7, 1)
	isError(t, "Lost", m.Lost(3, 1, 5), api.OK)
	checkMeter(t, m, "half of 12007", 6003, 6003, 1190)
}

// From the threshold on the window grows by 1200 n / window.
func TestAvoidance(t *testing.T) {
	m := loaded(t, 10)
	m.Lost(0, 1, 5)
	isError(t, "Acked", m.Acked(1200, 6), api.OK)
	checkMeter(t, m, "1200 * 1200 / 6000", 6240, 6000, 10800)
	m.Acked(1200, 6)
	checkMeter(t, m, "1200 * 1200 / 6240", 6470, 6000, 9600)
	m.Acked(5, 6)
	checkMeter(t, m, "1200 * 5 / 6470", 6470, 6000, 9595)
	m.Acked(6, 6)
	checkMeter(t, m, "1200 * 6 / 6470", 6471, 6000, 9589)
	m.Acked(0, 6)
	checkMeter(t, m, "nothing", 6471, 6000, 9589)
}

// Until something is lost or acknowledged that was sent after its start, a recovery changes nothing more.
func TestRecovery(t *testing.T) {
	m := loaded(t, 20)
	m.Lost(100, 3, 5)
	checkMeter(t, m, "the first", 6000, 6000, 23900)
	for _, sent := range []uint64{0, 3, 4, 5} {
		isError(t, "Lost", m.Lost(0, sent, 9), api.OK)
		isError(t, "Acked", m.Acked(1200, sent), api.OK)
	}
	isError(t, "Lost", m.Lost(100, 5, 9), api.OK)
	checkMeter(t, m, "sent up to its start", 6000, 6000, 19000)
	m.Acked(1200, 6)
	checkMeter(t, m, "acknowledged, sent after its start", 6240, 6000, 17800)
	m.Lost(1200, 6, 9)
	checkMeter(t, m, "lost, sent after its start", 3120, 3120, 16600)
	m.Acked(1200, 9)
	m.Lost(1200, 9, 20)
	m.Lost(1200, 6, 20)
	checkMeter(t, m, "sent up to the start of the second", 3120, 3120, 13000)
	m.Acked(1200, 10)
	checkMeter(t, m, "sent after the start of the second", 3581, 3120, 11800)
}

// A recovery starts at now, be that 0, the largest tick, or before the one that was.
func TestStartOfRecovery(t *testing.T) {
	m := loaded(t, 5)
	m.Lost(0, 0, 0)
	checkMeter(t, m, "lost at 0", 6000, 6000, 6000)
	m.Acked(1200, 0)
	m.Lost(1200, 0, 0)
	checkMeter(t, m, "sent at 0", 6000, 6000, 3600)
	m.Acked(1200, 1)
	checkMeter(t, m, "sent at 1", 6240, 6000, 2400)
	m.Lost(0, 50, 40)
	checkMeter(t, m, "lost before it was sent", 3120, 3120, 2400)
	m.Lost(0, 40, 60)
	checkMeter(t, m, "sent at the start", 3120, 3120, 2400)
	m.Lost(0, 41, 7)
	checkMeter(t, m, "sent after the start", 2400, 2400, 2400)
	m.Acked(1200, 8)
	checkMeter(t, m, "sent after the last start", 3000, 2400, 1200)
	m.Lost(0, math.MaxUint64, math.MaxUint64)
	m.Acked(1200, math.MaxUint64)
	checkMeter(t, m, "the largest tick", 2400, 2400, 0)
}

func TestLeastWindow(t *testing.T) {
	m := loaded(t, 8)
	for i, want := range []int{6000, 3000, 2400, 2400} {
		isError(t, "Lost", m.Lost(1200, uint64(2*i+1), uint64(2*i+2)), api.OK)
		checkMeter(t, m, "Lost", want, uint64(want), 1200*(7-i))
	}
	m.Acked(1200, 9)
	checkMeter(t, m, "1200 * 1200 / 2400", 3000, 2400, 3600)
}

// Gone tells nothing about the window.
func TestGone(t *testing.T) {
	m := loaded(t, 5)
	isError(t, "Gone", m.Gone(1200), api.OK)
	isError(t, "Gone", m.Gone(0), api.OK)
	isError(t, "Gone", m.Gone(5), api.OK)
	checkMeter(t, m, "Gone", 12000, api.MaxNum, 4795)
	m.Acked(10, 0)
	checkMeter(t, m, "Acked after Gone", 12010, api.MaxNum, 4785)
	m.Lost(1200, 1, 5)
	isError(t, "Gone", m.Gone(1200), api.OK)
	checkMeter(t, m, "Gone after Lost", 6005, 6005, 2385)
	isError(t, "Gone of the rest", m.Gone(1185), api.OK)
	isError(t, "Gone of the rest", m.Gone(1200), api.OK)
	checkMeter(t, m, "Gone of the rest", 6005, 6005, 0)
}

// An error leaves the meter as it is, also without a recovery.
func TestErrorsOfMeter(t *testing.T) {
	for _, flight := range []int{0, 1, 1199} {
		m := pace.NewMeter()
		m.Send(flight)
		for _, n := range []int{math.MinInt, -1201, -1, 1201, math.MaxInt} {
			isError(t, "Send", m.Send(n), api.ErrArg)
			isError(t, "Acked", m.Acked(n, 9), api.ErrArg)
			isError(t, "Lost", m.Lost(n, 9, 100), api.ErrArg)
			isError(t, "Gone", m.Gone(n), api.ErrArg)
		}
		for _, n := range []int{flight + 1, 1200} {
			isError(t, "Acked", m.Acked(n, 9), api.ErrNone)
			isError(t, "Lost", m.Lost(n, 9, 100), api.ErrNone)
			isError(t, "Gone", m.Gone(n), api.ErrNone)
		}
		checkMeter(t, m, "after errors", 12000, api.MaxNum, flight)
		isError(t, "Acked", m.Acked(flight, 9), api.OK)
		checkMeter(t, m, "no recovery was started", 12000+flight, api.MaxNum, 0)
	}
}

// At most 2^30 bytes are in flight, and the window is at most as large.
func TestMostBytes(t *testing.T) {
	const packets = mostBytes / 1200
	const rest = mostBytes - 1200*packets
	m := loaded(t, packets)
	isError(t, "Send of too much", m.Send(rest+1), api.ErrFull)
	isError(t, "Send of a packet", m.Send(1200), api.ErrFull)
	checkMeter(t, m, "nearly full", 12000, api.MaxNum, mostBytes-rest)
	isError(t, "Send of the rest", m.Send(rest), api.OK)
	isError(t, "Send of 1", m.Send(1), api.ErrFull)
	isError(t, "Send of nothing", m.Send(0), api.OK)
	isError(t, "Send of -1", m.Send(-1), api.ErrArg)
	isError(t, "Send of 1201", m.Send(1201), api.ErrArg)
	checkMeter(t, m, "full", 12000, api.MaxNum, mostBytes)
	isError(t, "Gone", m.Gone(1), api.OK)
	isError(t, "Send of 1 again", m.Send(1), api.OK)

	for range packets {
		m.Acked(1200, 1)
	}
	m.Acked(rest, 1)
	checkMeter(t, m, "grown", mostBytes, api.MaxNum, 0)
	m.Send(1200)
	m.Acked(1200, 1)
	checkMeter(t, m, "grown to the end", mostBytes, api.MaxNum, 0)
	m.Lost(0, 1, 5)
	checkMeter(t, m, "lost", mostBytes/2, mostBytes/2, 0)
	m.Send(1200)
	m.Acked(1200, 6)
	checkMeter(t, m, "1200 * 1200 / 2^29", mostBytes/2, mostBytes/2, 0)
}

// Near its end the window grows only up to it.
func TestWindowUpToItsEnd(t *testing.T) {
	m := pace.NewMeter()
	for w := 12000; w+1200 <= mostBytes; w += 1200 {
		m.Send(1200)
		m.Acked(1200, 1)
	}
	const near = mostBytes - (mostBytes-12000)%1200
	checkMeter(t, m, "near the end", near, api.MaxNum, 0)
	m.Send(1200)
	m.Acked(1200, 1)
	checkMeter(t, m, "at the end", mostBytes, api.MaxNum, 0)
}

// Whatever happens, the bytes in flight are those that were sent and are not removed, and the window is within its bounds.
func TestRandomMeter(t *testing.T) {
	random := rand.New(rand.NewPCG(8, 1))
	for range 50 {
		m, flight := pace.NewMeter(), 0
		for tick := range uint64(400) {
			n, sent := random.IntN(1210)-5, tick-min(tick, random.Uint64N(20))
			before, _, _ := m.Told()
			var e api.Errno
			change := -n
			switch random.IntN(5) {
			case 0:
				e = m.Acked(n, sent)
			case 1:
				e = m.Lost(n, sent, tick)
			case 2:
				e = m.Gone(n)
			default:
				e, change = m.Send(n), n
			}
			switch {
			case n < 0 || n > 1200:
				isError(t, "a size that is none", e, api.ErrArg)
			case flight+change < 0:
				isError(t, "more than is in flight", e, api.ErrNone)
			default:
				isError(t, "a valid call", e, api.OK)
				flight += change
			}
			window, threshold, f := m.Told()
			if f != flight || window < 2400 || window > before+1200 || window < before && (window != max(before/2, 2400) || threshold != uint64(window)) {
				t.Fatalf("Told = %d, %d, %d after a window of %d and with %d bytes in flight", window, threshold, f, before, flight)
			}
		}
	}
}

// Meters are apart from each other.
func TestMeters(t *testing.T) {
	a, b := loaded(t, 2), loaded(t, 1)
	a.Lost(1200, 1, 5)
	b.Acked(1200, 1)
	checkMeter(t, a, "the one", 6000, 6000, 1200)
	checkMeter(t, b, "the other", 13200, api.MaxNum, 0)
}

func TestNilMeter(t *testing.T) {
	var m *pace.Meter
	for _, n := range []int{math.MinInt, -1, 0, 1, 1200, 1201, math.MaxInt} {
		isError(t, "Send", m.Send(n), api.ErrNone)
		isError(t, "Acked", m.Acked(n, 0), api.ErrNone)
		isError(t, "Lost", m.Lost(n, 0, 1), api.ErrNone)
		isError(t, "Gone", m.Gone(n), api.ErrNone)
		checkMeter(t, m, "nil", 0, 0, 0)
	}
}
