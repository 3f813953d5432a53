package span_test

import (
	"math"
	"math/rand/v2"
	"slices"
	"testing"

	"colonnade/api"
	"colonnade/span"
)

// model is a set of the numbers from base on, one by one.
type model struct {
	base uint64
	has  [48]bool
}

// set makes the numbers from from to to be in the set, or not; those that the model doesn't reach it leaves out.
func (m *model) set(from, to uint64, in bool) {
	for i := range m.has {
		if n := m.base + uint64(i); from <= n && n <= to {
			m.has[i] = in
		}
	}
}

func (m *model) ranges() []api.Range {
	var l []api.Range
	for i, in := range m.has {
		n := m.base + uint64(i)
		switch {
		case in && i > 0 && m.has[i-1]:
			l[0].To = n
		case in:
			l = slices.Insert(l, 0, api.Range{From: n, To: n})
		}
	}
	return l
}

func (m *model) hole(from uint64) uint64 {
	for from >= m.base && from-m.base < uint64(len(m.has)) && m.has[from-m.base] {
		from++
	}
	return from
}

func (m *model) trim(most int) {
	l := m.ranges()
	m.has = [48]bool{}
	for _, r := range l[:min(max(most, 0), len(l))] {
		m.set(r.From, r.To, true)
	}
}

// compare checks all that a set tells against the model.
func (m *model) compare(t *testing.T, s *span.Set) {
	t.Helper()
	want := m.ranges()
	for _, most := range []int{0, 1, 2, 50} {
		if l := s.Ranges(most); !slices.Equal(l, want[:min(most, len(want))]) {
			t.Fatalf("Ranges(%d) = %v of %v", most, l, want)
		}
	}
	var count uint64
	for i, in := range m.has {
		n := m.base + uint64(i)
		if s.Has(n) != in || s.Hole(n) != m.hole(n) {
			t.Fatalf("Has(%d) = %t, Hole(%d) = %d in %v", n, s.Has(n), n, s.Hole(n), want)
		}
		if in {
			count++
		}
	}
	if s.Len() != len(want) || s.Count() != count {
		t.Fatalf("Len = %d, Count = %d of %v", s.Len(), s.Count(), want)
	}
	if n, ok := s.Largest(); ok != (len(want) > 0) || ok && n != want[0].To {
		t.Fatalf("Largest = %d, %t of %v", n, ok, want)
	}
}

// step changes both in the same way, at random.
func (m *model) step(t *testing.T, s *span.Set, random *rand.Rand) {
	t.Helper()
	from := m.base + random.Uint64N(48)
	to := min(from+random.Uint64N(8)-1, m.base+47)
	switch random.IntN(12) {
	case 0:
		s.Drop(from)
		if from > 0 {
			m.set(0, from-1, false)
		}
	case 1:
		most := random.IntN(9) - 1
		s.Trim(most)
		m.trim(most)
	case 2, 3, 4, 5:
		s.Cut(from, to)
		m.set(from, to, false)
	default:
		want := api.OK
		if from > to || to > api.MaxNum {
			want = api.ErrArg
		} else {
			m.set(from, to, true)
		}
		if e := s.Add(from, to); e != want {
			t.Fatalf("Add(%d, %d): %d; want %d", from, to, e, want)
		}
	}
}

// Whatever is done, a set is what its numbers one by one are; also at the ends of what a number may be.
func TestAgainstModel(t *testing.T) {
	random := rand.New(rand.NewPCG(7, 2))
	for _, base := range []uint64{0, 1, 1 << 32, api.MaxNum - 47, api.MaxNum - 20} {
		for range 60 {
			m, s := &model{base: base}, span.New()
			for range 150 {
				m.step(t, s, random)
				m.compare(t, s)
			}
			if s.Has(math.MaxUint64) {
				t.Fatal("the set has a number that is none")
			}
		}
	}
}
