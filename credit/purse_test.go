package credit_test

import (
	"math"
	"testing"

	"colonnade/api"
	"colonnade/credit"
)

const top = api.MaxNum

func checkPurse(t *testing.T, p *credit.Purse, what string, limit, spent uint64) {
	t.Helper()
	gotLimit, gotSpent := p.Told()
	if gotLimit != limit || gotSpent != spent || p.Left() != limit-spent {
		t.Errorf("%s: Told = %d, %d, Left = %d; want %d, %d, %d", what, gotLimit, gotSpent, p.Left(), limit, spent, limit-spent)
	}
}

func mustSpend(t *testing.T, p *credit.Purse, n uint64) {
	t.Helper()
	if e := p.Spend(n); e != api.OK {
		t.Errorf("Spend(%d): %d", n, e)
	}
}

// Limits above MaxNum count as MaxNum.
func TestNewPurse(t *testing.T) {
	for limit, want := range map[uint64]uint64{0: 0, 1: 1, 100: 100, top - 1: top - 1, top: top, top + 1: top, 1 << 63: top, math.MaxUint64: top} {
		checkPurse(t, credit.NewPurse(limit), "NewPurse", want, 0)
	}
}

func TestSpend(t *testing.T) {
	p := credit.NewPurse(10)
	for _, n := range []uint64{11, 12, top, top + 1, math.MaxUint64} {
		if e := p.Spend(n); e != api.ErrCredit {
			t.Errorf("Spend(%d) of 10: %d", n, e)
		}
		checkPurse(t, p, "after an error", 10, 0)
	}
	mustSpend(t, p, 0)
	checkPurse(t, p, "nothing spent", 10, 0)
	mustSpend(t, p, 7)
	checkPurse(t, p, "7 spent", 10, 7)
	// A sum that wraps round is more than is left, too.
	for _, n := range []uint64{4, 10, math.MaxUint64 - 6, math.MaxUint64} {
		if e := p.Spend(n); e != api.ErrCredit {
			t.Errorf("Spend(%d) of 3: %d", n, e)
		}
		checkPurse(t, p, "after an error", 10, 7)
	}
	mustSpend(t, p, 3)
	checkPurse(t, p, "all spent", 10, 10)
	mustSpend(t, p, 0)
	if e := p.Spend(1); e != api.ErrCredit {
		t.Errorf("Spend(1) of nothing: %d", e)
	}
	checkPurse(t, p, "all spent", 10, 10)
	p = credit.NewPurse(math.MaxUint64)
	mustSpend(t, p, top)
	if e := p.Spend(1); e != api.ErrCredit {
		t.Errorf("Spend(1) above MaxNum: %d", e)
	}
	checkPurse(t, p, "MaxNum spent", top, top)
}

func TestGrant(t *testing.T) {
	p := credit.NewPurse(10)
	mustSpend(t, p, 6)
	for _, x := range []struct {
		limit uint64
		want  bool
		now   uint64
	}{
		{0, false, 10},
		{5, false, 10},
		{10, false, 10},
		{11, true, 11},
		{11, false, 11},
		{10, false, 11},
		{500, true, 500},
		{top - 1, true, top - 1},
		{top + 1, true, top},
		{top, false, top},
		{top + 1, false, top},
		{math.MaxUint64, false, top},
		{20, false, top},
	} {
		if is := p.Grant(x.limit); is != x.want {
			t.Errorf("Grant(%d) = %t", x.limit, is)
		}
		checkPurse(t, p, "after Grant", x.now, 6)
	}
	for _, limit := range []uint64{top, top + 1, math.MaxUint64} {
		p = credit.NewPurse(0)
		if !p.Grant(limit) || p.Grant(limit) {
			t.Errorf("Grant(%d) is not news once", limit)
		}
		checkPurse(t, p, "after Grant", top, 0)
	}
	mustSpend(t, p, top)
	checkPurse(t, p, "all spent", top, top)
}

// Purses are apart from each other.
func TestPurses(t *testing.T) {
	a, b := credit.NewPurse(10), credit.NewPurse(10)
	a.Grant(20)
	mustSpend(t, a, 5)
	checkPurse(t, b, "the other one", 10, 0)
	checkPurse(t, a, "the first one", 20, 5)
}

func TestNilPurse(t *testing.T) {
	var p *credit.Purse
	for _, n := range []uint64{0, 1, top, top + 1, math.MaxUint64} {
		if p.Grant(n) {
			t.Errorf("Grant(%d) to nil", n)
		}
		if e := p.Spend(n); e != api.ErrNone {
			t.Errorf("Spend(%d) of nil: %d", n, e)
		}
		checkPurse(t, p, "nil", 0, 0)
	}
}
