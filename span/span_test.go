package span_test

import (
	"math"
	"math/rand/v2"
	"slices"
	"testing"

	"colonnade/api"
	"colonnade/span"
)

const top = api.MaxNum

// ranges makes a range of every two numbers.
func ranges(ends ...uint64) []api.Range {
	var l []api.Range
	for i := 0; i < len(ends); i += 2 {
		l = append(l, api.Range{From: ends[i], To: ends[i+1]})
	}
	return l
}

// check checks that the set has just these ranges, in decreasing order.
func check(t *testing.T, s *span.Set, what string, want ...uint64) {
	t.Helper()
	l := ranges(want...)
	var count uint64
	for _, r := range l {
		count += r.To - r.From + 1
	}
	if got := s.Ranges(math.MaxInt); !slices.Equal(got, l) {
		t.Errorf("%s: Ranges = %v; want %v", what, got, l)
	}
	if s.Len() != len(l) || s.Count() != count {
		t.Errorf("%s: Len = %d, Count = %d; want %d, %d", what, s.Len(), s.Count(), len(l), count)
	}
	n, ok := s.Largest()
	if ok != (len(l) > 0) || ok && n != l[0].To || !ok && n != 0 {
		t.Errorf("%s: Largest = %d, %t", what, n, ok)
	}
}

func TestNew(t *testing.T) {
	check(t, span.New(), "New of nothing")
	check(t, span.New(ranges()...), "New of an empty slice")
	check(t, span.New(ranges(3, 5, 9, 9, 6, 7)...), "New of the example", 9, 9, 3, 7)
	check(t, span.New(ranges(9, 9, 3, 5, 6, 7, 3, 5)...), "New in another order", 9, 9, 3, 7)
	check(t, span.New(ranges(0, top)...), "New of everything", 0, top)
	check(t, span.New(ranges(1, 100, 5, 6, 2, 3, 99, 101)...), "New of nested ranges", 1, 101)
}

// Only the valid ranges count.
func TestNewOfInvalid(t *testing.T) {
	check(t, span.New(ranges(5, 4)...), "a range that ends before it begins")
	check(t, span.New(ranges(5, top+1)...), "a range beyond all numbers")
	check(t, span.New(ranges(top+1, top+1)...), "a number that is none")
	check(t, span.New(ranges(0, math.MaxUint64, math.MaxUint64, 0, math.MaxUint64, math.MaxUint64)...), "the ends of the type")
	check(t, span.New(ranges(5, 4, 9, 9, 5, top+1, 3, 4, math.MaxUint64, 7, 0, 0)...), "some of them valid", 9, 9, 3, 4, 0, 0)
}

func TestAdd(t *testing.T) {
	for _, x := range []struct {
		what     string
		from, to uint64
		want     []uint64
	}{
		{"below all", 2, 5, []uint64{30, 40, 10, 20, 2, 5}},
		{"0", 0, 0, []uint64{30, 40, 10, 20, 0, 0}},
		{"up to two before the first", 0, 8, []uint64{30, 40, 10, 20, 0, 8}},
		{"up to just before the first", 0, 9, []uint64{30, 40, 0, 20}},
		{"up to the beginning of the first", 0, 10, []uint64{30, 40, 0, 20}},
		{"over the beginning", 8, 12, []uint64{30, 40, 8, 20}},
		{"the first again", 10, 20, []uint64{30, 40, 10, 20}},
		{"within the first", 12, 13, []uint64{30, 40, 10, 20}},
		{"over the end", 15, 25, []uint64{30, 40, 10, 25}},
		{"just after the first", 21, 22, []uint64{30, 40, 10, 22}},
		{"two after the first", 22, 22, []uint64{30, 40, 22, 22, 10, 20}},
		{"between", 22, 28, []uint64{30, 40, 22, 28, 10, 20}},
		{"what is missing between", 21, 29, []uint64{10, 40}},
		{"more than is missing", 11, 39, []uint64{10, 40}},
		{"all and more", 5, 50, []uint64{5, 50}},
		{"just after all", 41, 41, []uint64{30, 41, 10, 20}},
		{"two after all", 42, 42, []uint64{42, 42, 30, 40, 10, 20}},
		{"the largest", top, top, []uint64{top, top, 30, 40, 10, 20}},
		{"up to the largest", 41, top, []uint64{30, top, 10, 20}},
		{"everything", 0, top, []uint64{0, top}},
	} {
		s := span.New(ranges(10, 20, 30, 40)...)
		if e := s.Add(x.from, x.to); e != api.OK {
			t.Errorf("Add(%d, %d): %d", x.from, x.to, e)
		}
		check(t, s, x.what, x.want...)
	}
}

// An error leaves the set as it is.
func TestAddOfInvalid(t *testing.T) {
	s := span.New(ranges(10, 20, top-5, top)...)
	for _, r := range ranges(5, 4, 1, 0, top, top-1, 15, 10, 0, top+1, 15, top+1, top+1, top+1, top+2, top+1, 1<<63, 1<<63, math.MaxUint64, math.MaxUint64, math.MaxUint64, 0, 0, math.MaxUint64) {
		if e := s.Add(r.From, r.To); e != api.ErrArg {
			t.Errorf("Add(%d, %d): %d; want ErrArg", r.From, r.To, e)
		}
		check(t, s, "after an error", top-5, top, 10, 20)
	}
}

func TestHas(t *testing.T) {
	s := span.New(ranges(10, 20, 22, 22, top-1, top)...)
	for n, want := range map[uint64]bool{0: false, 9: false, 10: true, 15: true, 20: true, 21: false, 22: true, 23: false, top - 2: false, top - 1: true, top: true, top + 1: false, math.MaxUint64: false} {
		if s.Has(n) != want {
			t.Errorf("Has(%d) = %t", n, !want)
		}
	}
	if s := span.New(); s.Has(0) || s.Has(top) || s.Has(math.MaxUint64) {
		t.Error("an empty set has a number")
	}
	if s := span.New(ranges(0, 0)...); !s.Has(0) || s.Has(1) {
		t.Error("the set of 0 has something else")
	}
}

func TestHole(t *testing.T) {
	s := span.New(ranges(0, 2, 10, 20, 22, 22, top-1, top)...)
	for from, want := range map[uint64]uint64{0: 3, 2: 3, 3: 3, 5: 5, 9: 9, 10: 21, 20: 21, 21: 21, 22: 23, 23: 23, top - 2: top - 2, top - 1: top + 1, top: top + 1, top + 1: top + 1, math.MaxUint64: math.MaxUint64} {
		if n := s.Hole(from); n != want {
			t.Errorf("Hole(%d) = %d; want %d", from, n, want)
		}
	}
	for _, from := range []uint64{0, 7, top, math.MaxUint64} {
		if n := span.New().Hole(from); n != from {
			t.Errorf("Hole(%d) = %d in an empty set", from, n)
		}
	}
	if n := span.New(ranges(0, top)...).Hole(5); n != top+1 {
		t.Errorf("Hole(5) = %d in the set of everything", n)
	}
}

func TestRangesOfMost(t *testing.T) {
	s := span.New(ranges(1, 2, 4, 5, 7, 8)...)
	all := ranges(7, 8, 4, 5, 1, 2)
	for most, want := range map[int]int{math.MinInt: 0, -1: 0, 0: 0, 1: 1, 2: 2, 3: 3, 4: 3, math.MaxInt: 3} {
		if l := s.Ranges(most); !slices.Equal(l, all[:want]) {
			t.Errorf("Ranges(%d) = %v; want %v", most, l, all[:want])
		}
		if l := span.New().Ranges(most); len(l) != 0 {
			t.Errorf("Ranges(%d) = %v in an empty set", most, l)
		}
	}
}

func TestDrop(t *testing.T) {
	for below, want := range map[uint64][]uint64{
		0:              {top - 5, top, 30, 40, 10, 20},
		1:              {top - 5, top, 30, 40, 10, 20},
		10:             {top - 5, top, 30, 40, 10, 20},
		11:             {top - 5, top, 30, 40, 11, 20},
		20:             {top - 5, top, 30, 40, 20, 20},
		21:             {top - 5, top, 30, 40},
		25:             {top - 5, top, 30, 40},
		30:             {top - 5, top, 30, 40},
		35:             {top - 5, top, 35, 40},
		top - 5:        {top - 5, top},
		top:            {top, top},
		top + 1:        {},
		math.MaxUint64: {},
	} {
		s := span.New(ranges(10, 20, 30, 40, top-5, top)...)
		s.Drop(below)
		check(t, s, "Drop", want...)
	}
	// What was dropped may come again.
	s := span.New(ranges(3, 5)...)
	s.Drop(math.MaxUint64)
	s.Add(1, 1)
	check(t, s, "Add after Drop", 1, 1)
}

func TestCut(t *testing.T) {
	for _, x := range []struct {
		from, to uint64
		want     []uint64
	}{
		{0, 9, []uint64{30, 40, 10, 20}},
		{0, 10, []uint64{30, 40, 11, 20}},
		{10, 10, []uint64{30, 40, 11, 20}},
		{10, 19, []uint64{30, 40, 20, 20}},
		{10, 20, []uint64{30, 40}},
		{0, 29, []uint64{30, 40}},
		{11, 11, []uint64{30, 40, 12, 20, 10, 10}},
		{15, 17, []uint64{30, 40, 18, 20, 10, 14}},
		{11, 19, []uint64{30, 40, 20, 20, 10, 10}},
		{20, 20, []uint64{30, 40, 10, 19}},
		{15, 25, []uint64{30, 40, 10, 14}},
		{21, 29, []uint64{30, 40, 10, 20}},
		{20, 30, []uint64{31, 40, 10, 19}},
		{15, 35, []uint64{36, 40, 10, 14}},
		{11, 39, []uint64{40, 40, 10, 10}},
		{5, 35, []uint64{36, 40}},
		{15, 45, []uint64{10, 14}},
		{40, math.MaxUint64, []uint64{30, 39, 10, 20}},
		{41, math.MaxUint64, []uint64{30, 40, 10, 20}},
		{10, 40, nil},
		{0, math.MaxUint64, nil},
		{top, top, []uint64{30, 40, 10, 20}},
		{math.MaxUint64, math.MaxUint64, []uint64{30, 40, 10, 20}},
		// There are no numbers from a number to a smaller one.
		{15, 14, []uint64{30, 40, 10, 20}},
		{20, 10, []uint64{30, 40, 10, 20}},
		{18, 12, []uint64{30, 40, 10, 20}},
		{35, 15, []uint64{30, 40, 10, 20}},
		{math.MaxUint64, 0, []uint64{30, 40, 10, 20}},
		{1, 0, []uint64{30, 40, 10, 20}},
	} {
		s := span.New(ranges(10, 20, 30, 40)...)
		s.Cut(x.from, x.to)
		check(t, s, "Cut", x.want...)
	}
	s := span.New(ranges(0, top)...)
	s.Cut(0, 0)
	s.Cut(top, top)
	s.Cut(1<<40, 1<<41)
	check(t, s, "Cut of everything", 1<<41+1, top-1, 1, 1<<40-1)
}

func TestTrim(t *testing.T) {
	for most, want := range map[int][]uint64{
		math.MinInt: {},
		-1:          {},
		0:           {},
		1:           {50, 50},
		2:           {50, 50, 30, 40},
		3:           {50, 50, 30, 40, 10, 20},
		4:           {50, 50, 30, 40, 10, 20},
		math.MaxInt: {50, 50, 30, 40, 10, 20},
	} {
		s := span.New(ranges(10, 20, 30, 40, 50, 50)...)
		s.Trim(most)
		check(t, s, "Trim", want...)
		s.Add(1, 2)
		s.Add(45, 45)
		if !s.Has(1) || !s.Has(45) || s.Has(3) {
			t.Errorf("after Trim(%d) there is %v", most, s.Ranges(9))
		}
	}
	s := span.New()
	s.Trim(3)
	s.Trim(-3)
	check(t, s, "Trim of an empty set")
}

// A nil set has nothing and takes nothing.
func TestNil(t *testing.T) {
	var s *span.Set
	for _, r := range ranges(1, 2, 2, 1, 0, math.MaxUint64) {
		if e := s.Add(r.From, r.To); e != api.ErrNone {
			t.Errorf("Add(%d, %d) to nil: %d", r.From, r.To, e)
		}
	}
	for _, n := range []uint64{0, 5, top, math.MaxUint64} {
		if s.Has(n) || s.Hole(n) != n {
			t.Errorf("Has(%d) = %t, Hole(%d) = %d of nil", n, s.Has(n), n, s.Hole(n))
		}
		s.Drop(n)
		s.Cut(0, n)
		s.Cut(n, 0)
	}
	for _, most := range []int{math.MinInt, -1, 0, 1, math.MaxInt} {
		s.Trim(most)
		if l := s.Ranges(most); len(l) != 0 {
			t.Errorf("Ranges(%d) = %v of nil", most, l)
		}
	}
	check(t, s, "nil")
}

// A set shares no memory with what it was made of, with what it returned, or with another set.
func TestMemory(t *testing.T) {
	whole := ranges(30, 40, 10, 20, 21, 22, 7, 7)
	l := whole[:3]
	s, other := span.New(l...), span.New(l...)
	if !slices.Equal(whole, ranges(30, 40, 10, 20, 21, 22, 7, 7)) {
		t.Errorf("the argument is %v now", whole)
	}
	clear(whole)
	a, b := s.Ranges(9), s.Ranges(9)
	clear(a[:cap(a)])
	if !slices.Equal(b, ranges(30, 40, 10, 22)) {
		t.Errorf("a result is %v after another was changed", b)
	}
	check(t, s, "after a result was changed", 30, 40, 10, 22)
	other.Cut(0, top)
	check(t, s, "after another set was changed", 30, 40, 10, 22)
	s.Add(0, 50)
	s.Drop(49)
	if !slices.Equal(b, ranges(30, 40, 10, 22)) {
		t.Errorf("a result is %v after the set was changed", b)
	}
}

// A set of many ranges, made in any order, is the same.
func TestMany(t *testing.T) {
	const n = 20000
	random := rand.New(rand.NewPCG(7, 1))
	var l []api.Range
	for i := range uint64(n) {
		l = append(l, api.Range{From: 3 * i, To: 3*i + 1})
	}
	want := slices.Clone(l)
	slices.Reverse(want)
	random.Shuffle(len(l), func(i, j int) { l[i], l[j] = l[j], l[i] })
	made, added := span.New(l...), span.New()
	for _, r := range l {
		added.Add(r.From, r.To)
	}
	for _, s := range []*span.Set{made, added} {
		if !slices.Equal(s.Ranges(n+1), want) || s.Len() != n || s.Count() != 2*n {
			t.Fatal("the ranges are not those that were added")
		}
		for i := range uint64(n) {
			s.Add(3*i+2, 3*i+2)
		}
		check(t, s, "all holes filled", 0, 3*n-1)
	}
}
