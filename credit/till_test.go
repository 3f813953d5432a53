package credit_test

import (
	"math"
	"math/rand/v2"
	"testing"

	"colonnade/api"
	"colonnade/credit"
)

// amounts is what a till tells: the limit, the amount received, the amount read.
type amounts [3]uint64

func checkTill(t *testing.T, x *credit.Till, what string, want amounts) {
	t.Helper()
	limit, came, read := x.Told()
	if got := (amounts{limit, came, read}); got != want {
		t.Errorf("%s: Told = %v; want %v", what, got, want)
	}
}

// tillOf returns a till of which that much was received and read.
func tillOf(t *testing.T, window, came, read uint64) *credit.Till {
	t.Helper()
	x := credit.NewTill(window)
	mustCome(t, x, came)
	mustTake(t, x, read)
	return x
}

func mustCome(t *testing.T, x *credit.Till, high uint64) {
	t.Helper()
	if e := x.Came(high); e != api.OK {
		t.Fatalf("Came(%d): %d", high, e)
	}
}

func mustTake(t *testing.T, x *credit.Till, n uint64) {
	t.Helper()
	if e := x.Took(n); e != api.OK {
		t.Fatalf("Took(%d): %d", n, e)
	}
}

// checkNews checks News; no news are 0. The next ones are none in any case.
func checkNews(t *testing.T, x *credit.Till, what string, want uint64) {
	t.Helper()
	limit, came, read := x.Told()
	if n, ok := x.News(); n != want || ok != (want > 0) {
		t.Errorf("%s: News = %d, %t; want %d", what, n, ok, want)
	}
	checkTill(t, x, what, amounts{max(limit, want), came, read})
	if n, ok := x.News(); n != 0 || ok {
		t.Errorf("%s: News = %d, %t again", what, n, ok)
	}
	checkTill(t, x, what, amounts{max(limit, want), came, read})
}

// A window above MaxNum counts as MaxNum.
func TestNewTill(t *testing.T) {
	for window, want := range map[uint64]uint64{0: 0, 1: 1, 100: 100, top - 1: top - 1, top: top, top + 1: top, 1 << 63: top, math.MaxUint64: top} {
		x := credit.NewTill(window)
		checkTill(t, x, "NewTill", amounts{want, 0, 0})
		checkNews(t, x, "NewTill", 0)
	}
}

func TestTillExample(t *testing.T) {
	x := tillOf(t, 100, 60, 60)
	checkNews(t, x, "60 read", 160)
	if e := x.Came(161); e != api.ErrCredit {
		t.Errorf("Came(161): %d", e)
	}
	mustCome(t, x, 160)
	checkTill(t, x, "all came", amounts{160, 160, 60})
}

func TestCame(t *testing.T) {
	x := credit.NewTill(100)
	for _, s := range []struct {
		high uint64
		want api.Errno
		came uint64
	}{
		{0, api.OK, 0},
		{101, api.ErrCredit, 0},
		{top, api.ErrCredit, 0},
		{math.MaxUint64, api.ErrCredit, 0},
		{40, api.OK, 40},
		{39, api.OK, 40},
		{0, api.OK, 40},
		{40, api.OK, 40},
		{101, api.ErrCredit, 40},
		{99, api.OK, 99},
		{100, api.OK, 100},
		{5, api.OK, 100},
		{101, api.ErrCredit, 100},
	} {
		if e := x.Came(s.high); e != s.want {
			t.Errorf("Came(%d): %d; want %d", s.high, e, s.want)
		}
		checkTill(t, x, "after Came", amounts{100, s.came, 0})
	}
	x = credit.NewTill(math.MaxUint64)
	if e := x.Came(top + 1); e != api.ErrCredit {
		t.Errorf("Came above MaxNum: %d", e)
	}
	mustCome(t, x, top)
	checkTill(t, x, "MaxNum came", amounts{top, top, 0})
	x = credit.NewTill(0)
	if e := x.Came(1); e != api.ErrCredit {
		t.Errorf("Came(1) without a window: %d", e)
	}
	mustCome(t, x, 0)
}

func TestTook(t *testing.T) {
	x := tillOf(t, 100, 80, 0)
	for _, s := range []struct {
		n    uint64
		want api.Errno
		read uint64
	}{
		{81, api.ErrNone, 0},
		{100, api.ErrNone, 0},
		{math.MaxUint64, api.ErrNone, 0},
		{0, api.OK, 0},
		{40, api.OK, 40},
		{41, api.ErrNone, 40},
		// Sums that wrap round are more than was received, too.
		{math.MaxUint64 - 39, api.ErrNone, 40},
		{math.MaxUint64, api.ErrNone, 40},
		{39, api.OK, 79},
		{1, api.OK, 80},
		{1, api.ErrNone, 80},
		{0, api.OK, 80},
	} {
		if e := x.Took(s.n); e != s.want {
			t.Errorf("Took(%d): %d; want %d", s.n, e, s.want)
		}
		checkTill(t, x, "after Took", amounts{100, 80, s.read})
	}
	mustCome(t, x, 90)
	mustTake(t, x, 10)
	checkTill(t, x, "more came and was read", amounts{100, 90, 90})
}

func TestNews(t *testing.T) {
	for _, s := range []struct {
		window, read, want uint64
	}{
		{100, 0, 0},
		{100, 49, 0},
		{100, 50, 0}, // just half a window is left
		{100, 51, 151},
		{100, 60, 160},
		{100, 100, 200},
		{101, 50, 0}, // half of it is 50
		{101, 51, 0},
		{101, 52, 153},
		// Half of the window is at least 1.
		{0, 0, 0},
		{1, 0, 0},
		{1, 1, 2},
		{2, 1, 0},
		{2, 2, 4},
		{3, 1, 0},
		{3, 2, 0},
		{3, 3, 6},
		{4, 2, 0},
		{4, 3, 7},
		// A limit is at most MaxNum, and what is MaxNum already is not news.
		{top, top, 0},
		{top - 1, top / 2, 0},
		{top - 1, top - 1, top},
		{top / 2, top / 4, 0},
		{top / 2, top/4 + 2, top/2 + top/4 + 2},
		{top / 2, top / 2, top - 1},
		{top/2 + 1, top/2 + 1, top},
		{top/2 + 2, top/2 + 2, top},
		{math.MaxUint64, top, 0},
	} {
		checkNews(t, tillOf(t, s.window, s.read, s.read), "read as it came", s.want)
		checkNews(t, tillOf(t, s.window, min(s.window, top), s.read), "all came before", s.want)
	}
	// What came matters only once it is read.
	checkNews(t, tillOf(t, 100, 100, 0), "nothing read", 0)
}

// Each limit is announced once, from the one before on.
func TestNewsInTurn(t *testing.T) {
	x := tillOf(t, 100, 100, 60)
	checkNews(t, x, "60 read", 160)
	mustTake(t, x, 40)
	checkNews(t, x, "100 read, so 60 are left", 0)
	mustCome(t, x, 111)
	mustTake(t, x, 10)
	checkNews(t, x, "110 read, so 50 are left", 0)
	mustTake(t, x, 1)
	checkNews(t, x, "111 read", 211)
	if e := x.Came(212); e != api.ErrCredit {
		t.Errorf("Came(212): %d", e)
	}
	mustCome(t, x, 211)
	mustTake(t, x, 100)
	checkNews(t, x, "211 read", 311)
	x = tillOf(t, top-10, top-10, top-20)
	checkNews(t, x, "almost all read", top)
	mustCome(t, x, top)
	mustTake(t, x, 20)
	checkNews(t, x, "all read", 0)
	checkTill(t, x, "all read", amounts{top, top, top})
}

// Tills are apart from each other.
func TestTills(t *testing.T) {
	a, b := credit.NewTill(100), credit.NewTill(100)
	mustCome(t, a, 60)
	mustTake(t, a, 60)
	checkNews(t, a, "the first one", 160)
	checkTill(t, b, "the other one", amounts{100, 0, 0})
}

func TestNilTill(t *testing.T) {
	var x *credit.Till
	for _, n := range []uint64{0, 1, top, top + 1, math.MaxUint64} {
		if e := x.Came(n); e != api.ErrNone {
			t.Errorf("Came(%d) of nil: %d", n, e)
		}
		if e := x.Took(n); e != api.ErrNone {
			t.Errorf("Took(%d) of nil: %d", n, e)
		}
		checkNews(t, x, "nil", 0)
		checkTill(t, x, "nil", amounts{})
	}
}

// wire is a sender and a receiver between whom everything is late and in any order, and news may get lost.
type wire struct {
	purse *credit.Purse
	till  *credit.Till
	sent  []uint64 // what the sender has spent, each time
	news  []uint64
}

// pick removes and returns one of l.
func pick(l *[]uint64, random *rand.Rand) uint64 {
	i := random.IntN(len(*l))
	n := (*l)[i]
	*l = append((*l)[:i], (*l)[i+1:]...)
	return n
}

// step does something at random with amounts of at most most.
func (w *wire) step(t *testing.T, most uint64, random *rand.Rand) {
	t.Helper()
	_, came, read := w.till.Told()
	switch k := random.IntN(5); {
	case k == 0:
		mustSpendSome(t, w.purse, min(random.Uint64N(most)+1, w.purse.Left()))
		_, spent := w.purse.Told()
		w.sent = append(w.sent, spent)
	case k == 1 && len(w.sent) > 0:
		mustCome(t, w.till, pick(&w.sent, random))
	case k == 2:
		mustTake(t, w.till, min(random.Uint64N(most)+1, came-read))
	case k == 3:
		if n, ok := w.till.News(); ok {
			w.news = append(w.news, n)
		}
	case k == 4 && len(w.news) > 0:
		if n := pick(&w.news, random); random.IntN(4) > 0 {
			w.purse.Grant(n)
		}
	}
}

func mustSpendSome(t *testing.T, p *credit.Purse, n uint64) {
	t.Helper()
	_, before := p.Told()
	mustSpend(t, p, n)
	if _, spent := p.Told(); spent != before+n {
		t.Fatalf("%d are spent; want %d", spent, before+n)
	}
}

// A sender that spends no more than a till has announced is never rejected by it; and it may go on once all was read and the last news came.
func TestSenderIsNeverRejected(t *testing.T) {
	random := rand.New(rand.NewPCG(11, 3))
	for _, window := range []uint64{1, 2, 3, 10, 101, api.Window, 1 << 60, top / 2, top} {
		for range 50 {
			w := &wire{purse: credit.NewPurse(window), till: credit.NewTill(window)}
			for range 400 {
				w.step(t, window/4+2, random)
			}
			for len(w.sent) > 0 {
				mustCome(t, w.till, pick(&w.sent, random))
			}
			_, came, read := w.till.Told()
			mustTake(t, w.till, came-read)
			w.till.News()
			limit, _, _ := w.till.Told()
			w.purse.Grant(limit)
			if _, spent := w.purse.Told(); spent != came || spent < top && w.purse.Left() == 0 {
				t.Fatalf("%d are spent, %d came, %d are left of a window of %d", spent, came, w.purse.Left(), window)
			}
		}
	}
}
