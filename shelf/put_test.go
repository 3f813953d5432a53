package shelf_test

import (
	"math"
	"strings"
	"testing"

	"colonnade/api"
	"colonnade/shelf"
)

func TestNew(t *testing.T) {
	for _, room := range []int{1, 2, 16, 100, api.MaxShelf, mostRoom - 1, mostRoom} {
		s := newShelf(t, room)
		checkSize(t, s, 0, 0)
		checkLacks(t, s, "a", at(0, 0))
		checkNoLast(t, s, "a")
	}
	for _, room := range []int{0, -1, math.MinInt, mostRoom + 1, math.MaxInt} {
		if s, e := shelf.New(room); s != nil || e != api.ErrArg {
			t.Errorf("New(%d) = %v, %d; want ErrArg", room, s, e)
		}
	}
}

func TestName(t *testing.T) {
	for _, place := range []api.Place{at(0, 0), at(1, 2), at(api.MaxNum, api.MaxNum), at(math.MaxUint64, math.MaxUint64)} {
		for _, name := range []string{"a", "ab", "\x00", "a\x00b", string(text(31)), string(text(32))} {
			want := api.Key{Place: place}
			for i := range name {
				want.Track[i] = name[i]
			}
			if key, e := shelf.Name([]byte(name), place); e != api.OK || key != want {
				t.Errorf("Name(%q, %d) = %v, %d", name, place, key, e)
			}
		}
		for n, want := range map[int]api.Errno{0: api.ErrShort, 33: api.ErrLong, 34: api.ErrLong, 5000: api.ErrLong} {
			if key, e := shelf.Name(text(n), place); e != want || key != (api.Key{}) {
				t.Errorf("Name(%d bytes, %d) = %v, %d; want %d", n, place, key, e, want)
			}
		}
		if key, e := shelf.Name(nil, place); e != api.ErrShort || key != (api.Key{}) {
			t.Errorf("Name(nil, %d) = %v, %d", place, key, e)
		}
	}
}

func TestPut(t *testing.T) {
	s := newShelf(t, 1000)
	l := []api.Object{object(0, 0, 20), object(0, 1, 0), object(3, 7, 1), object(0, 9, 5), object(2, 0, 3), object(math.MaxUint64, math.MaxUint64, 2)}
	put(t, s, "a", l...)
	put(t, s, "b", object(0, 0, 4))
	checkSize(t, s, 7*overhead+35, 5)
	checkHas(t, s, "a", l...)
	checkHas(t, s, "b", object(0, 0, 4))
	checkLacks(t, s, "a", at(0, 2), at(1, 0), at(7, 3))
	checkLacks(t, s, "b", at(0, 1), at(3, 7))
}

// The example of the chapter.
func TestExample(t *testing.T) {
	s := newShelf(t, 100)
	put(t, s, "a", object(0, 0, 20), object(0, 1, 20))
	checkSize(t, s, 72, 1)
	put(t, s, "a", object(1, 0, 20))
	checkSize(t, s, 36, 1)
	checkLacks(t, s, "a", at(0, 0), at(0, 1))
	checkHas(t, s, "a", object(1, 0, 20))
}

func TestPutOfGram(t *testing.T) {
	s := newShelf(t, 1000)
	gram := object(1, 2, 5)
	gram.Gram = true
	put(t, s, "a", gram)
	checkHas(t, s, "a", object(1, 2, 5))
	checkRun(t, s, "a", at(1, 2), at(1, 2), object(1, 2, 5))
	checkPut(t, s, "a", gram, api.ErrExists)
}

// Each error comes before those after it, and changes nothing.
func TestErrorsOfPut(t *testing.T) {
	s := newShelf(t, 100)
	put(t, s, "a", object(0, 0, 20), object(0, 5, 20))
	long := string(text(33))
	for _, x := range []struct {
		what  string
		track string
		o     api.Object
		want  api.Errno
	}{
		{"no name", "", object(0, 1, 0), api.ErrShort},
		{"no name, for an object that is too long", "", object(0, 1, 101), api.ErrShort},
		{"a long name", long, object(0, 1, 0), api.ErrLong},
		{"a place that is taken", "a", object(0, 0, 20), api.ErrExists},
		{"a place that is taken, with other data", "a", object(0, 5, 0), api.ErrExists},
		{"a place that is taken, for an object that is too long", "a", object(0, 5, 200), api.ErrExists},
		{"no room beside the own group", "a", object(0, 1, 13), api.ErrLong},
		{"no room beside the own group by far", "a", object(0, 1, 5000), api.ErrLong},
		{"no room in another group", "a", object(1, 0, 85), api.ErrLong},
		{"no room in another track", "b", object(0, 0, 85), api.ErrLong},
		{"no room in another track by far", "b", object(9, 9, mostRoom), api.ErrLong},
	} {
		if e := s.Put([]byte(x.track), x.o); e != x.want {
			t.Errorf("%s: %d; want %d", x.what, e, x.want)
		}
		checkSize(t, s, 72, 1)
		checkHas(t, s, "a", object(0, 0, 20), object(0, 5, 20))
		checkLacks(t, s, "a", at(0, 1), at(1, 0))
		checkLast(t, s, "a", at(0, 5))
		checkNoLast(t, s, "b")
		checkNoLast(t, s, long)
	}
	put(t, s, "a", object(0, 1, 12))
	checkSize(t, s, 100, 1)
	put(t, s, "b", object(0, 0, 84))
	checkSize(t, s, 100, 1)
}

// If there is no room even without all other groups, none of them is removed.
func TestNoRoomRemovesNothing(t *testing.T) {
	s := newShelf(t, 200)
	l := []api.Object{object(0, 0, 20), object(1, 0, 20), object(1, 1, 20), object(2, 0, 20)}
	put(t, s, "a", l...)
	put(t, s, "b", object(1, 5, 4))
	checkPut(t, s, "a", object(1, 2, 200-72-overhead+1), api.ErrLong)
	checkPut(t, s, "b", object(1, 2, 200-20-overhead+1), api.ErrLong)
	checkPut(t, s, "c", object(0, 0, 200-overhead+1), api.ErrLong)
	checkSize(t, s, 164, 4)
	checkHas(t, s, "a", l...)
	checkHas(t, s, "b", object(1, 5, 4))
	checkLast(t, s, "a", at(2, 0))
	put(t, s, "a", object(1, 2, 200-72-overhead))
	checkSize(t, s, 200, 1)
	checkHas(t, s, "a", object(1, 0, 20), object(1, 1, 20), object(1, 2, 200-72-overhead))
}

// A shelf of which an object's overhead is more than the room stores nothing.
func TestLittleRoom(t *testing.T) {
	for room := 1; room < overhead; room++ {
		s := newShelf(t, room)
		checkPut(t, s, "a", object(0, 0, 0), api.ErrLong)
		checkPut(t, s, "a", object(0, 0, 50), api.ErrLong)
		checkSize(t, s, 0, 0)
		checkNoLast(t, s, "a")
	}
	s := newShelf(t, overhead)
	checkPut(t, s, "a", object(0, 0, 1), api.ErrLong)
	put(t, s, "a", object(0, 0, 0))
	checkSize(t, s, overhead, 1)
	checkPut(t, s, "a", object(0, 1, 0), api.ErrLong)
	put(t, s, "a", object(1, 0, 0))
	checkSize(t, s, overhead, 1)
	s = newShelf(t, mostRoom)
	checkPut(t, s, "a", object(0, 0, mostRoom-overhead+1), api.ErrLong)
	put(t, s, "a", object(0, 0, mostRoom-overhead))
	checkSize(t, s, mostRoom, 1)
	checkHas(t, s, "a", object(0, 0, mostRoom-overhead))
}

// Names that are padded to the same key are of one track.
func TestPaddedNames(t *testing.T) {
	s := newShelf(t, 1000)
	put(t, s, "a", object(1, 0, 3))
	for _, name := range []string{"a\x00", "a\x00\x00", "a" + strings.Repeat("\x00", 31)} {
		checkHas(t, s, name, object(1, 0, 3))
		checkPut(t, s, name, object(1, 0, 5), api.ErrExists)
		checkLast(t, s, name, at(1, 0))
	}
	checkLacks(t, s, "a"+strings.Repeat("\x00", 32), at(1, 0))
	checkLacks(t, s, "\x00a", at(1, 0))
	s.Drop([]byte("a\x00"))
	checkLacks(t, s, "a", at(1, 0))
	checkSize(t, s, 0, 0)
}

// Names that differ in their last byte only, or of which one begins with the other, are of different tracks.
func TestOtherNames(t *testing.T) {
	s := newShelf(t, 1000)
	names := []string{"a", "b", "aa", "a\x00a", "\x00a", "\x00", string(text(32)), string(text(31)), string(text(31)) + "x"}
	for i, name := range names {
		put(t, s, name, object(uint64(i), 0, i))
		checkLast(t, s, name, at(uint64(i), 0))
	}
	for i, name := range names {
		checkHas(t, s, name, object(uint64(i), 0, i))
		checkLacks(t, s, name, at(uint64(i+1), 0))
	}
	if s.Groups() != len(names) {
		t.Errorf("Groups = %d", s.Groups())
	}
}
