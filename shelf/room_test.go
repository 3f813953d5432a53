package shelf_test

import (
	"testing"

	"colonnade/api"
)

// A full shelf removes nothing until more comes.
func TestFull(t *testing.T) {
	s := newShelf(t, 108)
	put(t, s, "a", object(0, 0, 20), object(1, 0, 20), object(2, 0, 20))
	checkSize(t, s, 108, 3)
	put(t, s, "a", object(3, 0, 0))
	checkSize(t, s, 88, 3)
	checkLacks(t, s, "a", at(0, 0))
	put(t, s, "a", object(3, 1, 4))
	checkSize(t, s, 108, 3)
	checkHas(t, s, "a", object(1, 0, 20), object(2, 0, 20), object(3, 0, 0), object(3, 1, 4))
}

// The groups are removed in the order in which they came, not by their numbers or tracks.
func TestOrderOfRemoval(t *testing.T) {
	s := newShelf(t, 180)
	put(t, s, "b", object(7, 3, 20))
	put(t, s, "a", object(9, 0, 20), object(2, 0, 20))
	put(t, s, "b", object(1, 0, 20), object(8, 0, 20))
	for i, x := range []struct {
		track string
		place api.Place
	}{{"b", at(7, 3)}, {"a", at(9, 0)}, {"a", at(2, 0)}, {"b", at(1, 0)}, {"b", at(8, 0)}} {
		if _, ok := s.Get([]byte(x.track), x.place); !ok {
			t.Fatalf("%s %d was removed too early", x.track, x.place)
		}
		put(t, s, "c", object(uint64(9-i), 0, 20))
		checkLacks(t, s, x.track, x.place)
		checkSize(t, s, 180, 5)
	}
	checkHas(t, s, "c", object(9, 0, 20), object(8, 0, 20), object(7, 0, 20), object(6, 0, 20), object(5, 0, 20))
}

// A later object, even one with a smaller number, does not make a group a later one, nor does asking for one.
func TestGroupCameWithItsFirst(t *testing.T) {
	s := newShelf(t, 200)
	put(t, s, "a", object(0, 5, 20), object(1, 0, 20), object(0, 6, 20), object(0, 1, 20))
	checkHas(t, s, "a", object(0, 5, 20))
	checkRun(t, s, "a", at(0, 5), at(0, 6), object(0, 5, 20), object(0, 6, 20))
	checkPut(t, s, "a", object(0, 5, 20), api.ErrExists)
	checkPut(t, s, "a", object(0, 7, 200), api.ErrLong)
	put(t, s, "a", object(2, 0, 60))
	checkLacks(t, s, "a", at(0, 5), at(0, 6), at(0, 1))
	checkHas(t, s, "a", object(1, 0, 20), object(2, 0, 60))
	checkSize(t, s, 112, 2)
}

// A group that was removed and comes again is a new one.
func TestGroupComesAgain(t *testing.T) {
	s := newShelf(t, 108)
	put(t, s, "a", object(0, 0, 20), object(1, 0, 20), object(2, 0, 20), object(3, 0, 20))
	checkLacks(t, s, "a", at(0, 0))
	put(t, s, "a", object(0, 0, 20))
	checkLacks(t, s, "a", at(1, 0))
	put(t, s, "a", object(4, 0, 20))
	checkLacks(t, s, "a", at(2, 0))
	checkHas(t, s, "a", object(3, 0, 20), object(0, 0, 20), object(4, 0, 20))
	put(t, s, "a", object(5, 0, 20), object(6, 0, 20))
	checkLacks(t, s, "a", at(3, 0), at(0, 0))
	checkHas(t, s, "a", object(4, 0, 20), object(5, 0, 20), object(6, 0, 20))
}

// The group of the object that is stored stays, also if it came first; the next ones are removed.
func TestOwnGroupStays(t *testing.T) {
	s := newShelf(t, 144)
	put(t, s, "a", object(0, 0, 20), object(1, 0, 20))
	put(t, s, "b", object(0, 0, 20), object(1, 0, 20))
	put(t, s, "a", object(0, 1, 20))
	checkLacks(t, s, "a", at(1, 0))
	checkSize(t, s, 144, 3)
	put(t, s, "a", object(0, 2, 20))
	checkLacks(t, s, "b", at(0, 0))
	put(t, s, "b", object(1, 1, 0))
	checkLacks(t, s, "a", at(0, 0), at(0, 1), at(0, 2))
	checkHas(t, s, "b", object(1, 0, 20), object(1, 1, 0))
	checkSize(t, s, 52, 1)
}

// In the midst of the others the own group stays, too, and is the first one then.
func TestOwnGroupBetween(t *testing.T) {
	s := newShelf(t, 144)
	put(t, s, "a", object(0, 0, 20), object(1, 0, 20), object(2, 0, 20), object(3, 0, 20))
	put(t, s, "a", object(1, 1, 56))
	checkLacks(t, s, "a", at(0, 0), at(2, 0))
	checkHas(t, s, "a", object(1, 0, 20), object(1, 1, 56), object(3, 0, 20))
	checkSize(t, s, 144, 2)
	put(t, s, "a", object(4, 0, 0))
	checkLacks(t, s, "a", at(1, 0), at(1, 1))
	checkHas(t, s, "a", object(3, 0, 20), object(4, 0, 0))
}

// As many groups are removed as must be, each as a whole, and no more.
func TestSeveralAreRemoved(t *testing.T) {
	for _, x := range []struct{ size, gone, used int }{
		{0, 0, 176}, {24, 0, 200}, {25, 2, 200 - 72 + 1}, {96, 2, 200}, {97, 3, 200 - 16 + 1}, {112, 3, 200}, {113, 4, 200 - 36 + 1}, {148, 4, 200}, {149, 5, 200 - 36 + 1}, {184, 5, 200},
	} {
		s := newShelf(t, 200)
		l := []api.Object{object(5, 0, 20), object(5, 1, 20), object(1, 0, 0), object(3, 0, 20), object(2, 9, 20)}
		put(t, s, "a", l...)
		put(t, s, "a", object(4, 0, x.size))
		groups := 5 - x.gone
		if x.gone > 0 {
			// The first group has two of the objects.
			groups++
		}
		checkSize(t, s, x.used, groups)
		checkHas(t, s, "a", append(l[x.gone:], object(4, 0, x.size))...)
		for _, o := range l[:x.gone] {
			checkLacks(t, s, "a", o.Place)
		}
	}
}

// What was dropped is out of the order, wherever it was in it.
func TestOrderAfterDrop(t *testing.T) {
	for _, dropped := range []string{"a", "b", "c", "d"} {
		s := newShelf(t, 144)
		names := []string{"a", "b", "c", "d"}
		for _, name := range names {
			put(t, s, name, object(0, 0, 20))
		}
		s.Drop([]byte(dropped))
		checkSize(t, s, 108, 3)
		put(t, s, "e", object(0, 0, 20))
		checkSize(t, s, 144, 4)
		for i, name := range append(names, "e") {
			if name == dropped {
				continue
			}
			checkHas(t, s, name, object(0, 0, 20))
			put(t, s, "f", object(uint64(i), 0, 20))
			checkLacks(t, s, name, at(0, 0))
			checkSize(t, s, 144, 4)
		}
	}
}

// Dropped, and stored again, a track comes last.
func TestDroppedComesAgain(t *testing.T) {
	s := newShelf(t, 72)
	put(t, s, "a", object(0, 0, 20))
	put(t, s, "b", object(0, 0, 20))
	s.Drop([]byte("a"))
	put(t, s, "a", object(0, 0, 20))
	put(t, s, "c", object(0, 0, 20))
	checkLacks(t, s, "b", at(0, 0))
	checkHas(t, s, "a", object(0, 0, 20))
	s.Drop([]byte("a"))
	s.Drop([]byte("c"))
	checkSize(t, s, 0, 0)
	put(t, s, "c", object(1, 0, 20), object(2, 0, 20), object(3, 0, 20))
	checkLacks(t, s, "c", at(0, 0), at(1, 0))
	checkHas(t, s, "c", object(2, 0, 20), object(3, 0, 20))
}
