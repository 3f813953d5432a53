package loss_test

import (
	"math"
	"math/rand/v2"
	"slices"
	"testing"

	"colonnade/api"
	"colonnade/loss"
)

// packet is one of 100 bytes that must be acknowledged.
func packet(number, sent uint64) loss.Packet {
	return loss.Packet{Number: number, Sent: sent, Size: 100, Asks: true}
}

// sent returns a ledger with these packets.
func sent(t *testing.T, l ...loss.Packet) *loss.Ledger {
	t.Helper()
	ledger := loss.New()
	for _, p := range l {
		if e := ledger.Send(p); e != api.OK {
			t.Fatalf("Send(%v): %d", p, e)
		}
	}
	return ledger
}

// rising returns a ledger with the packets 0 to n-1; packet i was sent at 10 + i.
func rising(t *testing.T, n uint64) *loss.Ledger {
	t.Helper()
	var l []loss.Packet
	for i := range n {
		l = append(l, packet(i, 10+i))
	}
	return sent(t, l...)
}

// ranges makes a range of every two numbers.
func ranges(ends ...uint64) []api.Range {
	var l []api.Range
	for i := 0; i < len(ends); i += 2 {
		l = append(l, api.Range{From: ends[i], To: ends[i+1]})
	}
	return l
}

// mustAck acknowledges ranges, of every two numbers.
func mustAck(t *testing.T, l *loss.Ledger, ends ...uint64) []loss.Packet {
	t.Helper()
	got, e := l.Ack(ranges(ends...))
	if e != api.OK {
		t.Fatalf("Ack(%v): %d", ends, e)
	}
	return got
}

// check checks the numbers of packets.
func check(t *testing.T, what string, l []loss.Packet, want ...uint64) {
	t.Helper()
	var got []uint64
	for _, p := range l {
		got = append(got, p.Number)
	}
	if !slices.Equal(got, want) {
		t.Errorf("%s: packets %v; want %v", what, got, want)
	}
}

// checkTold checks a number that may not be there: then want is empty.
func checkTold(t *testing.T, what string, n uint64, ok bool, want ...uint64) {
	t.Helper()
	if ok != (len(want) > 0) || ok && n != want[0] || !ok && n != 0 {
		t.Errorf("%s = %d, %t; want %v", what, n, ok, want)
	}
}

func checkDue(t *testing.T, what string, l *loss.Ledger, wait uint64, want ...uint64) {
	t.Helper()
	at, ok := l.Due(wait)
	checkTold(t, what+": Due", at, ok, want...)
}

func checkAcked(t *testing.T, what string, l *loss.Ledger, want ...uint64) {
	t.Helper()
	n, ok := l.Acked()
	checkTold(t, what+": Acked", n, ok, want...)
}

// checkNext checks the next number.
func checkNext(t *testing.T, what string, l *loss.Ledger, want uint64) {
	t.Helper()
	if n := l.Next(); n != want {
		t.Errorf("%s: Next = %d; want %d", what, n, want)
	}
}

func TestExample(t *testing.T) {
	l := sent(t, packet(1, 5), packet(2, 5), packet(3, 5), packet(4, 5))
	check(t, "Ack(4)", mustAck(t, l, 4, 4), 4)
	check(t, "Lost(6, 9)", l.Lost(6, 9), 1)
	check(t, "Lost(13, 9)", l.Lost(13, 9))
	check(t, "Lost(14, 9)", l.Lost(14, 9), 2, 3)
	check(t, "Open", l.Open())
}

func TestNew(t *testing.T) {
	l := loss.New()
	checkNext(t, "New", l, 0)
	check(t, "Open", l.Open())
	check(t, "Lost", l.Lost(math.MaxUint64, 0))
	check(t, "Clear", l.Clear())
	check(t, "Ack of nothing", mustAck(t, l))
	checkAcked(t, "New", l)
	checkDue(t, "New", l, 0)
	at, ok := l.Last()
	checkTold(t, "Last", at, ok)
	if p, ok := l.First(); ok || p != (loss.Packet{}) {
		t.Errorf("First = %v, %t", p, ok)
	}
}

func TestSend(t *testing.T) {
	l := loss.New()
	want := []loss.Packet{
		{Number: 0},
		{Number: 1, Sent: 7, Size: 1200, Asks: true},
		{Number: 5, Sent: api.MaxNum, Size: math.MaxInt},
		{Number: 6, Sent: 3, Asks: true},
		{Number: api.MaxNum, Sent: 4, Size: 1},
	}
	for i, p := range want {
		if e := l.Send(p); e != api.OK {
			t.Errorf("Send(%v): %d", p, e)
		}
		checkNext(t, "Send", l, p.Number+1)
		if got := l.Open(); !slices.Equal(got, want[:i+1]) {
			t.Errorf("Open = %v; want %v", got, want[:i+1])
		}
	}
	// There is no number left.
	for _, n := range []uint64{0, 5, api.MaxNum} {
		if e := l.Send(packet(n, 5)); e != api.ErrForm {
			t.Errorf("Send of %d: %d; want ErrForm", n, e)
		}
	}
}

// An error leaves the ledger as it is.
func TestErrorsOfSend(t *testing.T) {
	l := sent(t, packet(3, 20), packet(7, 21))
	for _, x := range []struct {
		p    loss.Packet
		want api.Errno
	}{
		{loss.Packet{Number: 8, Size: -1}, api.ErrArg},
		{loss.Packet{Number: 8, Size: math.MinInt}, api.ErrArg},
		{loss.Packet{Number: api.MaxNum + 1}, api.ErrArg},
		{loss.Packet{Number: math.MaxUint64}, api.ErrArg},
		{loss.Packet{Number: 8, Sent: api.MaxNum + 1}, api.ErrArg},
		{loss.Packet{Number: 8, Sent: math.MaxUint64}, api.ErrArg},
		{loss.Packet{Number: 7}, api.ErrForm},
		{loss.Packet{Number: 5}, api.ErrForm},
		{loss.Packet{Number: 3}, api.ErrForm},
		{loss.Packet{Number: 0}, api.ErrForm},
		// Both: ErrArg comes first.
		{loss.Packet{Number: 7, Size: -1}, api.ErrArg},
		{loss.Packet{Number: 0, Sent: api.MaxNum + 1}, api.ErrArg},
	} {
		if e := l.Send(x.p); e != x.want {
			t.Errorf("Send(%v): %d; want %d", x.p, e, x.want)
		}
		check(t, "after an error", l.Open(), 3, 7)
		checkNext(t, "after an error", l, 8)
	}
	if e := l.Send(packet(8, 1)); e != api.OK {
		t.Errorf("Send of 8: %d", e)
	}
}

func TestAck(t *testing.T) {
	for _, x := range []struct {
		ends       []uint64
		gone, left []uint64
	}{
		{nil, nil, []uint64{2, 3, 5, 6, 7, 10}},
		{[]uint64{2, 2}, []uint64{2}, []uint64{3, 5, 6, 7, 10}},
		{[]uint64{3, 6}, []uint64{3, 5, 6}, []uint64{2, 7, 10}},
		{[]uint64{10, 10}, []uint64{10}, []uint64{2, 3, 5, 6, 7}},
		{[]uint64{0, 10}, []uint64{2, 3, 5, 6, 7, 10}, nil},
		{[]uint64{0, 1}, nil, []uint64{2, 3, 5, 6, 7, 10}},
		{[]uint64{4, 4, 8, 9}, nil, []uint64{2, 3, 5, 6, 7, 10}},
		// In any order, one over the other, one in the other, one twice.
		{[]uint64{10, 10, 6, 7, 2, 3}, []uint64{2, 3, 6, 7, 10}, []uint64{5}},
		{[]uint64{2, 3, 6, 7, 10, 10}, []uint64{2, 3, 6, 7, 10}, []uint64{5}},
		{[]uint64{6, 6, 2, 2, 10, 10}, []uint64{2, 6, 10}, []uint64{3, 5, 7}},
		{[]uint64{5, 7, 3, 6}, []uint64{3, 5, 6, 7}, []uint64{2, 10}},
		{[]uint64{5, 5, 1, 9}, []uint64{2, 3, 5, 6, 7}, []uint64{10}},
		{[]uint64{1, 9, 5, 5, 3, 3}, []uint64{2, 3, 5, 6, 7}, []uint64{10}},
		{[]uint64{2, 2, 2, 5, 2, 3}, []uint64{2, 3, 5}, []uint64{6, 7, 10}},
		{[]uint64{7, 7, 7, 7}, []uint64{7}, []uint64{2, 3, 5, 6, 10}},
	} {
		l := sent(t, packet(2, 5), packet(3, 5), packet(5, 6), packet(6, 7), packet(7, 7), packet(10, 9))
		check(t, "Ack", mustAck(t, l, x.ends...), x.gone...)
		check(t, "Open after Ack", l.Open(), x.left...)
		check(t, "Ack again", mustAck(t, l, x.ends...))
		check(t, "Open after Ack again", l.Open(), x.left...)
		checkNext(t, "after Ack", l, 11)
	}
}

// What Ack returns is what was sent.
func TestPacketsOfAck(t *testing.T) {
	a, b, c := loss.Packet{Number: 1, Sent: 9, Size: 3}, loss.Packet{Number: 2, Sent: 4, Size: 1200, Asks: true}, loss.Packet{Number: 4, Size: 7, Asks: true}
	l := sent(t, a, b, c)
	if got := mustAck(t, l, 2, 4); !slices.Equal(got, []loss.Packet{b, c}) {
		t.Errorf("Ack = %v", got)
	}
	if got := l.Open(); !slices.Equal(got, []loss.Packet{a}) {
		t.Errorf("Open = %v", got)
	}
}

// An error leaves the ledger as it is, also if other ranges are valid.
func TestErrorsOfAck(t *testing.T) {
	for _, x := range []struct {
		ends []uint64
		want api.Errno
	}{
		{[]uint64{3, 2}, api.ErrForm},
		{[]uint64{math.MaxUint64, 0}, api.ErrForm},
		{[]uint64{6, 6}, api.ErrArg},
		{[]uint64{0, 6}, api.ErrArg},
		{[]uint64{4, math.MaxUint64}, api.ErrArg},
		{[]uint64{math.MaxUint64, math.MaxUint64}, api.ErrArg},
		{[]uint64{5, 5, 3, 2}, api.ErrForm},
		{[]uint64{3, 2, 5, 5}, api.ErrForm},
		{[]uint64{5, 5, 3, 6}, api.ErrArg},
		{[]uint64{3, 6, 5, 5}, api.ErrArg},
		// Both, in either order and in one range: ErrForm comes first.
		{[]uint64{0, 6, 3, 2}, api.ErrForm},
		{[]uint64{3, 2, 0, 6}, api.ErrForm},
		{[]uint64{9, 8}, api.ErrForm},
	} {
		l := rising(t, 6)
		mustAck(t, l, 2, 2)
		if got, e := l.Ack(ranges(x.ends...)); e != x.want || len(got) != 0 {
			t.Errorf("Ack(%v) = %v, %d; want %d", x.ends, got, e, x.want)
		}
		check(t, "Open after an error", l.Open(), 0, 1, 3, 4, 5)
		checkAcked(t, "after an error", l, 2)
		checkNext(t, "after an error", l, 6)
	}
	if _, e := loss.New().Ack(ranges(0, 0)); e != api.ErrArg {
		t.Errorf("Ack in a new ledger: %d", e)
	}
}

// The largest acknowledged number stays, whatever is acknowledged, lost, or cleared later, and counts if its packet was not in flight any more, or never.
func TestAcked(t *testing.T) {
	l := rising(t, 6)
	checkAcked(t, "before any", l)
	mustAck(t, l)
	checkAcked(t, "no ranges", l)
	mustAck(t, l, 0, 0)
	checkAcked(t, "0", l, 0)
	mustAck(t, l, 1, 1, 3, 3, 2, 2)
	checkAcked(t, "up to 3", l, 3)
	mustAck(t, l, 0, 1)
	checkAcked(t, "0 to 1 again", l, 3)
	l.Lost(1000, 0)
	check(t, "Clear", l.Clear(), 4, 5)
	checkAcked(t, "cleared", l, 3)
	check(t, "Ack after Clear", mustAck(t, l, 4, 4))
	checkAcked(t, "4 after Clear", l, 4)
	l.Send(packet(9, 20))
	check(t, "Ack of what was not sent", mustAck(t, l, 8, 8))
	checkAcked(t, "8, that was not sent", l, 8)
}

// A packet is lost if it is 3 below the largest acknowledged number.
func TestLostByNumber(t *testing.T) {
	for acked, want := range [][]uint64{{}, {}, {}, {0}, {0, 1}, {0, 1, 2}} {
		l := rising(t, 7)
		mustAck(t, l, uint64(acked), uint64(acked))
		check(t, "Lost", l.Lost(0, math.MaxUint64), want...)
		check(t, "Lost again", l.Lost(0, math.MaxUint64))
		if n := len(l.Open()); n != 6-len(want) {
			t.Errorf("%d packets are left", n)
		}
		checkNext(t, "Lost", l, 7)
	}
	l := rising(t, 7)
	check(t, "nothing was acknowledged", l.Lost(math.MaxUint64, 0))
	l = sent(t, packet(0, 5), packet(7, 5), packet(8, 5), packet(10, 5), packet(api.MaxNum, 5))
	mustAck(t, l, 10, 10)
	check(t, "numbers with gaps", l.Lost(5, 1), 0, 7)
	mustAck(t, l, api.MaxNum, api.MaxNum)
	check(t, "below the largest number", l.Lost(5, 1), 8)
}

// A packet below the largest acknowledged number is lost if it was sent wait ticks ago.
func TestLostByTime(t *testing.T) {
	for _, x := range []struct {
		now, wait uint64
		want      []uint64
	}{
		{100, 50, []uint64{3, 4}},
		{61, 50, []uint64{3, 4}},
		{60, 50, []uint64{3}},
		{59, 50, nil},
		{11, 0, []uint64{3, 4}},
		{10, 0, []uint64{3}},
		// What is sent later was not sent ago.
		{9, 0, nil},
		{0, 0, nil},
		{0, 1, nil},
		{5, 10, nil},
		{0, math.MaxUint64, nil},
		{math.MaxUint64, 0, []uint64{3, 4}},
		{math.MaxUint64, math.MaxUint64 - 11, []uint64{3, 4}},
		{math.MaxUint64, math.MaxUint64 - 10, []uint64{3}},
		{math.MaxUint64, math.MaxUint64 - 9, nil},
		{math.MaxUint64, math.MaxUint64, nil},
	} {
		l := sent(t, packet(3, 10), packet(4, 11), packet(5, 0), packet(6, 0))
		mustAck(t, l, 5, 5)
		check(t, "Lost", l.Lost(x.now, x.wait), x.want...)
		check(t, "Lost again", l.Lost(x.now, x.wait))
		if n := len(l.Open()); n != 3-len(x.want) {
			t.Errorf("%d packets are left", n)
		}
	}
	// The times need not rise with the numbers.
	l := sent(t, packet(3, 20), packet(4, 10), packet(5, 30))
	mustAck(t, l, 5, 5)
	check(t, "sent before a smaller number", l.Lost(15, 5), 4)
}

func TestDue(t *testing.T) {
	l := sent(t, packet(3, 20), packet(4, 10), packet(5, 15), packet(6, 5), packet(7, 6))
	checkDue(t, "nothing was acknowledged", l, 3)
	mustAck(t, l, 3, 3)
	checkDue(t, "nothing is below", l, 3)
	mustAck(t, l, 5, 5)
	checkDue(t, "4 is below", l, 3, 13)
	checkDue(t, "without a wait", l, 0, 10)
	checkDue(t, "the largest wait", l, api.MaxNum, api.MaxNum+10)
	checkDue(t, "a larger wait", l, api.MaxNum+1, api.MaxNum+10)
	checkDue(t, "the largest of all", l, math.MaxUint64, api.MaxNum+10)
	check(t, "before it is due", l.Lost(12, 3))
	check(t, "when it is due", l.Lost(13, 3), 4)
	checkDue(t, "after it was lost", l, 3)
	mustAck(t, l, 7, 7)
	checkDue(t, "6 is below", l, 3, 8)

	// The smallest Sent counts, whatever its number, and also if it is lost already.
	l = sent(t, packet(1, 30), packet(2, api.MaxNum), packet(7, 20), packet(8, 25), packet(9, 1))
	mustAck(t, l, 9, 9)
	checkDue(t, "three are below", l, 7, 27)
	check(t, "Lost", l.Lost(0, 7), 1, 2)
	checkDue(t, "two are below", l, 7, 27)
	// Packets that need not be acknowledged can be lost, too.
	l = sent(t, loss.Packet{Number: 0, Sent: api.MaxNum}, packet(1, 0))
	mustAck(t, l, 1, 1)
	checkDue(t, "the largest of both", l, math.MaxUint64, 2*api.MaxNum)
	check(t, "Lost", l.Lost(api.MaxNum+7, 7), 0)
}

func TestFirstAndLast(t *testing.T) {
	quiet := func(number, sent uint64) loss.Packet { return loss.Packet{Number: number, Sent: sent, Size: 30} }
	l := sent(t, quiet(0, 5), packet(2, 6), packet(3, 7), quiet(4, 8), packet(6, 9), quiet(7, 10))
	expect := func(what string, want ...loss.Packet) {
		t.Helper()
		first, okFirst := l.First()
		at, okLast := l.Last()
		if len(want) == 0 {
			want = []loss.Packet{{}, {}}
		}
		if is := want[0].Asks; okFirst != is || okLast != is || first != want[0] || at != want[1].Sent {
			t.Errorf("%s: First = %v, %t, Last = %d, %t; want those of %v", what, first, okFirst, at, okLast, want)
		}
	}
	expect("all", packet(2, 6), packet(6, 9))
	mustAck(t, l, 2, 2)
	expect("2 was acknowledged", packet(3, 7), packet(6, 9))
	mustAck(t, l, 6, 6)
	expect("6 was acknowledged", packet(3, 7), packet(3, 7))
	check(t, "Lost", l.Lost(8, 1000), 0, 3)
	expect("3 was lost")
	check(t, "Open", l.Open(), 4, 7)
	l.Send(packet(8, 0))
	expect("8 was sent", packet(8, 0), packet(8, 0))
	// The last is the one with the largest number.
	l = sent(t, packet(0, 50), quiet(1, 70), packet(2, 40))
	expect("times that fall", packet(0, 50), packet(2, 40))
	l.Clear()
	expect("cleared")
}

func TestClear(t *testing.T) {
	l := rising(t, 5)
	mustAck(t, l, 2, 2)
	before := l.Open()
	got := l.Clear()
	check(t, "Clear", got, 0, 1, 3, 4)
	if !slices.Equal(got, before) {
		t.Errorf("Clear = %v; want %v", got, before)
	}
	check(t, "Open", l.Open())
	check(t, "Clear again", l.Clear())
	check(t, "Lost", l.Lost(math.MaxUint64, 0))
	checkDue(t, "cleared", l, 1)
	checkNext(t, "cleared", l, 5)
	checkAcked(t, "cleared", l, 2)
	if e := l.Send(packet(4, 0)); e != api.ErrForm {
		t.Errorf("Send of 4 again: %d", e)
	}
	if e := l.Send(packet(5, 0)); e != api.OK {
		t.Errorf("Send of 5: %d", e)
	}
	check(t, "Open", l.Open(), 5)
}

// A nil ledger has nothing and takes nothing.
func TestNil(t *testing.T) {
	var l *loss.Ledger
	for _, p := range []loss.Packet{{}, packet(5, 5), {Size: -1}, {Number: math.MaxUint64}} {
		if e := l.Send(p); e != api.ErrNone {
			t.Errorf("Send(%v) to nil: %d", p, e)
		}
	}
	for _, r := range [][]api.Range{nil, ranges(0, 0), ranges(3, 2), ranges(0, math.MaxUint64)} {
		if got, e := l.Ack(r); e != api.ErrNone || len(got) != 0 {
			t.Errorf("Ack(%v) of nil = %v, %d", r, got, e)
		}
	}
	check(t, "Lost of nil", l.Lost(math.MaxUint64, 0))
	check(t, "Open of nil", l.Open())
	check(t, "Clear of nil", l.Clear())
	checkNext(t, "nil", l, 0)
	checkAcked(t, "nil", l)
	checkDue(t, "nil", l, 5)
	at, ok := l.Last()
	checkTold(t, "Last of nil", at, ok)
	if p, ok := l.First(); ok || p != (loss.Packet{}) {
		t.Errorf("First of nil = %v, %t", p, ok)
	}
}

// A ledger shares no memory with an argument, a result or another ledger, and results share none.
func TestMemory(t *testing.T) {
	l, other := rising(t, 20), rising(t, 20)
	whole := ranges(18, 18, 2, 3, 0, 0, 7, 7, 5, 5)
	r := whole[:3]
	before := slices.Clone(whole)
	acked, _ := l.Ack(r)
	if !slices.Equal(whole, before) {
		t.Errorf("the argument is %v now", whole)
	}
	clear(whole)
	a, b := l.Open(), l.Open()
	lost := l.Lost(0, 9)
	left := l.Open()
	spoil(acked, a, lost)
	check(t, "a result after others were changed", b, 1, 4, 5, 6, 7, 8, 9, 10, 11, 12, 13, 14, 15, 16, 17, 19)
	check(t, "Open after results were changed", l.Open(), 16, 17, 19)
	cleared := l.Clear()
	spoil(b, left)
	check(t, "Clear after results were changed", cleared, 16, 17, 19)
	l.Send(packet(20, 1))
	l.Send(packet(21, 1))
	check(t, "a result after packets were sent", cleared, 16, 17, 19)
	spoil(cleared)
	check(t, "Open after Clear was changed", l.Open(), 20, 21)
	if n := len(other.Open()); n != 20 {
		t.Errorf("the other ledger has %d packets", n)
	}
}

// spoil overwrites slices with their spare capacity.
func spoil(l ...[]loss.Packet) {
	for _, p := range l {
		p = p[:cap(p)]
		for i := range p {
			p[i] = packet(math.MaxUint64, math.MaxUint64)
		}
	}
}

// Many ranges of many packets take no longer than both together.
func TestMany(t *testing.T) {
	const n = 200000
	l := rising(t, n)
	var r []api.Range
	for i := range uint64(n / 2) {
		r = append(r, api.Range{From: 2 * i, To: 2 * i})
	}
	rand.New(rand.NewPCG(9, 2)).Shuffle(len(r), func(i, j int) { r[i], r[j] = r[j], r[i] })
	got, e := l.Ack(r)
	if e != api.OK || len(got) != n/2 || len(l.Open()) != n/2 {
		t.Fatalf("Ack returned %d packets, %d", len(got), e)
	}
	for i, p := range got {
		if p.Number != uint64(2*i) {
			t.Fatalf("packet %d of Ack is %v", i, p)
		}
	}
	if lost := l.Lost(0, 1); len(lost) != n/2-2 {
		t.Errorf("%d packets are lost", len(lost))
	}
}
