package turn_test

import (
	"math"
	"math/rand/v2"
	"slices"
	"testing"

	"colonnade/api"
	"colonnade/turn"
)

const (
	top = api.MaxNum
	end = math.MaxUint64
)

func TestRank(t *testing.T) {
	for _, x := range []struct {
		sub, pub, order byte
		group           uint64
		want            [3]uint64
	}{
		{1, 2, 2, 5, [3]uint64{1, 2, top - 5}},
		{1, 2, 1, 5, [3]uint64{1, 2, 5}},
		{0, 0, 1, 0, [3]uint64{0, 0, 0}},
		{0, 0, 2, 0, [3]uint64{0, 0, top}},
		{255, 0, 1, 9, [3]uint64{255, 0, 9}},
		{0, 255, 1, 9, [3]uint64{0, 255, 9}},
		{255, 255, 1, top, [3]uint64{255, 255, top}},
		{7, 8, 2, top - 1, [3]uint64{7, 8, 1}},
		{7, 8, 2, top, [3]uint64{7, 8, 0}},
		{7, 8, 2, top + 1, [3]uint64{7, 8, 0}},
		{7, 8, 2, 1 << 63, [3]uint64{7, 8, 0}},
		{7, 8, 2, end, [3]uint64{7, 8, 0}},
		{7, 8, 1, top + 1, [3]uint64{7, 8, top + 1}},
		{7, 8, 1, end, [3]uint64{7, 8, end}},
		// Only 2 turns the groups round.
		{1, 2, 0, 5, [3]uint64{1, 2, 5}},
		{1, 2, 3, 5, [3]uint64{1, 2, 5}},
		{1, 2, 255, end, [3]uint64{1, 2, end}},
	} {
		if r := turn.Rank(x.sub, x.pub, x.order, x.group); r != x.want {
			t.Errorf("Rank(%d, %d, %d, %d) = %d; want %d", x.sub, x.pub, x.order, x.group, r, x.want)
		}
	}
}

func TestLess(t *testing.T) {
	// In increasing order.
	l := [][3]uint64{
		{0, 0, 0}, {0, 0, 1}, {0, 0, end}, {0, 1, 0}, {0, 1, 1}, {0, end, 0}, {0, end, end}, {1, 0, 0}, {1, 0, 1}, {1, 1, 0},
		{1, 1, 1}, {2, 0, 0}, {255, 3, 2}, {255, 3, top}, {255, 4, 1}, {256, 0, 0}, {1 << 63, 0, 0}, {end, 0, 0}, {end, 0, 1}, {end, end, end},
	}
	for i, a := range l {
		for j, b := range l {
			if turn.Less(a, b) != (i < j) {
				t.Errorf("Less(%d, %d) = %t", a, b, i >= j)
			}
		}
	}
}

// The objects of a greater priority of the subscriber, then of the publisher, go last; groups go in their order.
func TestLessOfRanks(t *testing.T) {
	for _, x := range []struct{ a, b [3]uint64 }{
		{turn.Rank(0, 255, 2, 0), turn.Rank(1, 0, 1, 0)},
		{turn.Rank(1, 0, 1, 9), turn.Rank(1, 1, 1, 3)},
		{turn.Rank(1, 1, 1, 3), turn.Rank(1, 1, 1, 4)},
		{turn.Rank(1, 1, 2, 4), turn.Rank(1, 1, 2, 3)},
		{turn.Rank(1, 1, 2, top), turn.Rank(1, 1, 2, 0)},
	} {
		if !turn.Less(x.a, x.b) || turn.Less(x.b, x.a) {
			t.Errorf("%d doesn't come before %d", x.a, x.b)
		}
	}
}

func TestSort(t *testing.T) {
	for _, x := range []struct {
		l    [][3]uint64
		want []int
	}{
		{nil, nil},
		{[][3]uint64{}, nil},
		{[][3]uint64{{5, 5, 5}}, []int{0}},
		{[][3]uint64{{1, 0, 0}, {0, 9, 9}}, []int{1, 0}},
		{[][3]uint64{{0, 9, 9}, {1, 0, 0}}, []int{0, 1}},
		{[][3]uint64{{1, 2, 3}, {1, 2, 3}, {1, 2, 3}}, []int{0, 1, 2}},
		{[][3]uint64{{1, 2, 4}, {1, 2, 3}, {1, 2, 4}, {1, 1, 9}, {1, 2, 3}, {0, 3, 0}}, []int{5, 3, 1, 4, 0, 2}},
		{[][3]uint64{{end, 0, 0}, {0, end, 0}, {0, 0, end}, {0, 0, 0}, {1 << 63, 0, 0}}, []int{3, 2, 1, 4, 0}},
	} {
		if order := turn.Sort(x.l); !slices.Equal(order, x.want) {
			t.Errorf("Sort(%d) = %d; want %d", x.l, order, x.want)
		}
	}
}

// The indices are those of all elements, each once; of two of them the earlier one is of the smaller element, or of the earlier of two equal ones.
func TestSortOfMany(t *testing.T) {
	random := rand.New(rand.NewPCG(19, 1))
	for range 300 {
		l := make([][3]uint64, random.IntN(200))
		for i := range l {
			l[i] = [3]uint64{random.Uint64N(3), random.Uint64N(3), random.Uint64N(4)}
		}
		spare := append(slices.Clone(l), [3]uint64{9, 9, 9})
		order := turn.Sort(spare[:len(l)])
		if !slices.Equal(spare[:len(l)], l) || spare[len(l)] != [3]uint64{9, 9, 9} {
			t.Fatal("Sort changes its argument")
		}
		if len(order) != len(l) {
			t.Fatalf("Sort returns %d of %d indices", len(order), len(l))
		}
		seen := make([]bool, len(l))
		for n, i := range order {
			if i < 0 || i >= len(l) || seen[i] {
				t.Fatalf("Sort(%d) = %d", l, order)
			}
			seen[i] = true
			if n > 0 && (turn.Less(l[i], l[order[n-1]]) || l[i] == l[order[n-1]] && i < order[n-1]) {
				t.Fatalf("Sort(%d) = %d, at %d", l, order, n)
			}
		}
	}
}

func TestStale(t *testing.T) {
	for _, x := range []struct {
		group, newest, window uint64
		want                  bool
	}{
		{5, 9, 3, true},
		{5, 9, 4, false},
		{5, 9, 5, false},
		{5, 5, 0, false},
		{5, 6, 0, true},
		{5, 6, 1, false},
		{0, 0, 0, false},
		{0, 1, 0, true},
		// A later group is never stale.
		{6, 5, 0, false},
		{9, 0, 3, false},
		{end, 0, 0, false},
		{end, end - 1, 0, false},
		{end, end, 0, false},
		// No sum or difference goes beyond what a number may be.
		{0, end, end, false},
		{0, end, end - 1, true},
		{1, end, end - 1, false},
		{1, end, end - 2, true},
		{end - 1, end, 0, true},
		{end - 1, end, end, false},
		{5, 9, end, false},
		{0, top, top, false},
		{0, top, top - 1, true},
	} {
		for _, order := range []byte{1, 0, 3, 255} {
			if turn.Stale(x.group, x.newest, x.window, order) != x.want {
				t.Errorf("Stale(%d, %d, %d, %d) = %t", x.group, x.newest, x.window, order, !x.want)
			}
		}
		if turn.Stale(x.group, x.newest, x.window, 2) {
			t.Errorf("Stale(%d, %d, %d, 2) = true", x.group, x.newest, x.window)
		}
	}
}

func TestLate(t *testing.T) {
	for _, x := range []struct {
		groups []uint64
		window uint64
		want   []uint64
	}{
		{[]uint64{1, 5, 4, 2}, 2, []uint64{1, 2}},
		{[]uint64{1, 5, 4, 2}, 0, []uint64{1, 4, 2}},
		{[]uint64{1, 5, 4, 2}, 3, []uint64{1}},
		{[]uint64{1, 5, 4, 2}, 4, nil},
		{[]uint64{1, 5, 4, 2}, end, nil},
		{nil, 0, nil},
		{[]uint64{}, 5, nil},
		{[]uint64{0}, 0, nil},
		{[]uint64{7}, 0, nil},
		{[]uint64{end}, 0, nil},
		{[]uint64{3, 3, 3}, 0, nil},
		// They stay in their order, each as often as it is there.
		{[]uint64{2, 9, 1, 2, 9, 0, 1}, 3, []uint64{2, 1, 2, 0, 1}},
		{[]uint64{9, 3, 2, 1}, 5, []uint64{3, 2, 1}},
		{[]uint64{1, 2, 3, 9}, 5, []uint64{1, 2, 3}},
		{[]uint64{9, 0}, 8, []uint64{0}},
		{[]uint64{0, end, 1}, end - 1, []uint64{0}},
		{[]uint64{0, end, 1}, end, nil},
		{[]uint64{end - 1, end, top}, 0, []uint64{end - 1, top}},
	} {
		if late := turn.Late(x.groups, x.window); !slices.Equal(late, x.want) {
			t.Errorf("Late(%d, %d) = %d; want %d", x.groups, x.window, late, x.want)
		}
	}
}

// What is late is what is stale, with order 1.
func TestLateIsStale(t *testing.T) {
	random := rand.New(rand.NewPCG(19, 2))
	for range 2000 {
		groups := make([]uint64, 1+random.IntN(20))
		for i := range groups {
			groups[i] = random.Uint64N(30)
		}
		window := random.Uint64N(30)
		var want []uint64
		for _, group := range groups {
			if turn.Stale(group, slices.Max(groups), window, 1) {
				want = append(want, group)
			}
		}
		if late := turn.Late(groups, window); !slices.Equal(late, want) {
			t.Fatalf("Late(%d, %d) = %d; want %d", groups, window, late, want)
		}
	}
}

// Late and Sort share no memory with their arguments or with other results.
func TestMemory(t *testing.T) {
	groups := []uint64{1, 5, 4, 2, 77}
	a, b := turn.Late(groups[:4], 2), turn.Late(groups[:4], 2)
	clear(a[:cap(a)])
	if !slices.Equal(groups, []uint64{1, 5, 4, 2, 77}) || !slices.Equal(b, []uint64{1, 2}) {
		t.Errorf("Late shares memory: %d, %d", groups, b)
	}
	l := [][3]uint64{{1, 0, 0}, {0, 0, 0}}
	c, d := turn.Sort(l), turn.Sort(l)
	clear(c[:cap(c)])
	if !slices.Equal(l, [][3]uint64{{1, 0, 0}, {0, 0, 0}}) || !slices.Equal(d, []int{1, 0}) {
		t.Errorf("Sort shares memory: %d, %d", l, d)
	}
}
