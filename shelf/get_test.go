package shelf_test

import (
	"math"
	"testing"

	"colonnade/api"
	"colonnade/shelf"
)

func TestRun(t *testing.T) {
	s := newShelf(t, 1000)
	// They come in any order.
	put(t, s, "a", object(1, 4, 1), object(1, 2, 2), object(2, 0, 3), object(1, 3, 0), object(1, 6, 5), object(1, 0, 6), object(2, 1, 1))
	put(t, s, "b", object(1, 1, 1), object(1, 5, 1))
	checkRun(t, s, "a", at(1, 2), at(1, 4), object(1, 2, 2), object(1, 3, 0), object(1, 4, 1))
	checkRun(t, s, "a", at(1, 2), at(1, 3), object(1, 2, 2), object(1, 3, 0))
	checkRun(t, s, "a", at(1, 3), at(1, 3), object(1, 3, 0))
	checkRun(t, s, "a", at(1, 0), at(1, 0), object(1, 0, 6))
	checkRun(t, s, "a", at(1, 6), at(1, 6), object(1, 6, 5))
	checkRun(t, s, "a", at(2, 0), at(2, 1), object(2, 0, 3), object(2, 1, 1))
	for _, x := range []struct {
		what     string
		track    string
		from, to api.Place
	}{
		{"without the first", "a", at(1, 1), at(1, 4)},
		{"without the last", "a", at(1, 2), at(1, 5)},
		{"with gaps", "a", at(1, 0), at(1, 6)},
		{"with a gap", "a", at(1, 4), at(1, 6)},
		{"beyond the last", "a", at(1, 6), at(1, 7)},
		{"of none", "a", at(1, 1), at(1, 1)},
		{"with none after it", "a", at(1, 7), at(1, 9)},
		{"backwards", "a", at(1, 4), at(1, 2)},
		{"backwards, next to each other", "a", at(1, 3), at(1, 2)},
		{"of two groups", "a", at(1, 6), at(2, 0)},
		{"of two groups, at the same number", "a", at(1, 0), at(2, 0)},
		{"of two groups, at numbers next to each other", "a", at(1, 0), at(2, 1)},
		{"of two groups, backwards", "a", at(2, 0), at(1, 6)},
		{"of two groups, of which only the second is stored", "a", at(0, 0), at(1, 0)},
		{"of a group that is not stored", "a", at(3, 0), at(3, 0)},
		{"up to the largest number", "a", at(1, 2), at(1, math.MaxUint64)},
		{"of all numbers", "a", at(1, 0), at(1, math.MaxUint64)},
		{"of the numbers that are allowed", "a", at(1, 0), at(1, api.MaxNum)},
		{"of everything", "a", at(0, 0), at(math.MaxUint64, math.MaxUint64)},
		{"of another track", "b", at(1, 2), at(1, 4)},
		{"of the places of another track", "b", at(1, 1), at(1, 5)},
		{"of a track that is not stored", "c", at(1, 2), at(1, 4)},
		{"without a name", "", at(1, 2), at(1, 4)},
		{"of a long name", string(text(33)), at(1, 2), at(1, 4)},
	} {
		if l, ok := s.Run([]byte(x.track), x.from, x.to); ok || len(l) != 0 {
			t.Errorf("a run %s: %+v, %t", x.what, l, ok)
		}
	}
	put(t, s, "a", object(1, 1, 1), object(1, 5, 0))
	checkRun(t, s, "a", at(1, 0), at(1, 6), object(1, 0, 6), object(1, 1, 1), object(1, 2, 2), object(1, 3, 0), object(1, 4, 1), object(1, 5, 0), object(1, 6, 5))
	checkNoRun(t, s, "a", at(1, 0), at(1, 7))
}

func TestRunAtTheEnd(t *testing.T) {
	const end = math.MaxUint64
	s := newShelf(t, 1000)
	put(t, s, "a", object(end, end, 3), object(end, end-1, 2), object(end, end-2, 1), object(end, 0, 0))
	checkRun(t, s, "a", at(end, end), at(end, end), object(end, end, 3))
	checkRun(t, s, "a", at(end, end-2), at(end, end), object(end, end-2, 1), object(end, end-1, 2), object(end, end, 3))
	checkRun(t, s, "a", at(end, 0), at(end, 0), object(end, 0, 0))
	checkNoRun(t, s, "a", at(end, end-3), at(end, end))
	checkNoRun(t, s, "a", at(end, end), at(end, 0))
	checkNoRun(t, s, "a", at(end, 0), at(end, end))
}

// What was removed for lack of room or dropped is in no run.
func TestRunAfterRemoval(t *testing.T) {
	s := newShelf(t, 100)
	put(t, s, "a", object(0, 0, 10), object(0, 1, 10))
	checkRun(t, s, "a", at(0, 0), at(0, 1), object(0, 0, 10), object(0, 1, 10))
	put(t, s, "a", object(1, 0, 50))
	checkNoRun(t, s, "a", at(0, 0), at(0, 1))
	checkNoRun(t, s, "a", at(0, 0), at(0, 0))
	put(t, s, "a", object(0, 1, 10))
	checkNoRun(t, s, "a", at(0, 0), at(0, 1))
	checkRun(t, s, "a", at(0, 1), at(0, 1), object(0, 1, 10))
	s.Drop([]byte("a"))
	checkNoRun(t, s, "a", at(0, 1), at(0, 1))
}

func TestLast(t *testing.T) {
	s := newShelf(t, 1000)
	checkNoLast(t, s, "a")
	put(t, s, "a", object(0, 0, 0))
	checkLast(t, s, "a", at(0, 0))
	for _, x := range []struct{ put, want api.Place }{
		{at(0, 5), at(0, 5)},
		{at(0, 3), at(0, 5)},
		{at(2, 1), at(2, 1)},
		{at(1, 9), at(2, 1)},
		{at(2, 0), at(2, 1)},
		{at(2, 2), at(2, 2)},
		{at(math.MaxUint64, 0), at(math.MaxUint64, 0)},
		{at(3, math.MaxUint64), at(math.MaxUint64, 0)},
	} {
		put(t, s, "a", object(x.put.Group, x.put.Object, 0))
		checkLast(t, s, "a", x.want)
		checkNoLast(t, s, "b")
	}
	put(t, s, "b", object(1, 1, 0))
	checkLast(t, s, "b", at(1, 1))
	checkLast(t, s, "a", at(math.MaxUint64, 0))
}

// It is the largest place that was ever stored, even if nothing of the track is any more.
func TestLastOfRemoved(t *testing.T) {
	s := newShelf(t, 100)
	put(t, s, "a", object(5, 5, 20), object(2, 0, 20))
	put(t, s, "b", object(0, 0, 84))
	checkSize(t, s, 100, 1)
	checkLast(t, s, "a", at(5, 5))
	put(t, s, "a", object(3, 0, 20))
	checkLast(t, s, "a", at(5, 5))
	checkLast(t, s, "b", at(0, 0))
	checkPut(t, s, "a", object(9, 9, 85), api.ErrLong)
	checkLast(t, s, "a", at(5, 5))
	s.Drop([]byte("b"))
	checkNoLast(t, s, "b")
	s.Drop([]byte("a"))
	checkNoLast(t, s, "a")
	put(t, s, "a", object(1, 0, 20))
	checkLast(t, s, "a", at(1, 0))
}

// A track of which everything was removed is dropped, too.
func TestDropOfRemoved(t *testing.T) {
	s := newShelf(t, 50)
	put(t, s, "a", object(5, 5, 20))
	put(t, s, "b", object(1, 0, 20))
	checkSize(t, s, 36, 1)
	s.Drop([]byte("a"))
	checkNoLast(t, s, "a")
	checkSize(t, s, 36, 1)
	checkHas(t, s, "b", object(1, 0, 20))
}

func TestDrop(t *testing.T) {
	s := newShelf(t, 1000)
	put(t, s, "a", object(0, 0, 1), object(1, 0, 2), object(1, 1, 3), object(7, 0, 4))
	put(t, s, "b", object(0, 0, 1), object(1, 0, 2))
	put(t, s, "a", object(0, 1, 5))
	checkSize(t, s, 7*overhead+18, 5)
	s.Drop([]byte("c"))
	checkSize(t, s, 7*overhead+18, 5)
	s.Drop([]byte("a"))
	checkSize(t, s, 2*overhead+3, 2)
	checkLacks(t, s, "a", at(0, 0), at(0, 1), at(1, 0), at(1, 1), at(7, 0))
	checkHas(t, s, "b", object(0, 0, 1), object(1, 0, 2))
	checkNoLast(t, s, "a")
	checkLast(t, s, "b", at(1, 0))
	s.Drop([]byte("a"))
	checkSize(t, s, 2*overhead+3, 2)
	put(t, s, "a", object(0, 0, 9))
	checkHas(t, s, "a", object(0, 0, 9))
	checkSize(t, s, 3*overhead+12, 3)
	s.Drop([]byte("b"))
	s.Drop([]byte("a"))
	checkSize(t, s, 0, 0)
}

// Nothing is stored under an invalid name, and nothing is dropped by one: neither what its beginning names, nor what zero bytes do.
func TestInvalidNames(t *testing.T) {
	s := newShelf(t, 1000)
	name := string(text(32))
	put(t, s, "\x00", object(0, 0, 1))
	put(t, s, name, object(0, 0, 1))
	for _, invalid := range []string{"", name + "\x00", name + "x", string(make([]byte, 33)), string(make([]byte, 5000))} {
		checkLacks(t, s, invalid, at(0, 0))
		checkNoRun(t, s, invalid, at(0, 0), at(0, 0))
		checkNoLast(t, s, invalid)
		s.Drop([]byte(invalid))
		checkSize(t, s, 2*(overhead+1), 2)
	}
	s.Drop(nil)
	checkHas(t, s, "\x00", object(0, 0, 1))
	checkHas(t, s, name, object(0, 0, 1))
	checkLast(t, s, "\x00", at(0, 0))
}

func TestNil(t *testing.T) {
	var s *shelf.Shelf
	for _, track := range []string{"a", "", string(text(33))} {
		checkPut(t, s, track, object(0, 0, 0), api.ErrNone)
		checkPut(t, s, track, object(0, 0, mostRoom), api.ErrNone)
		checkLacks(t, s, track, at(0, 0))
		checkNoRun(t, s, track, at(0, 0), at(0, 0))
		checkNoLast(t, s, track)
		s.Drop([]byte(track))
	}
	checkSize(t, s, 0, 0)
}
