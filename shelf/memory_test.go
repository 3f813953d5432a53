package shelf_test

import (
	"bytes"
	"runtime"
	"slices"
	"testing"

	"colonnade/api"
	"colonnade/shelf"
)

func flip(p []byte) {
	p = p[:cap(p)]
	for i := range p {
		p[i] ^= 0xff
	}
}

// A shelf changes nothing of its arguments, and keeps nothing of them.
func TestMemoryOfPut(t *testing.T) {
	s := newShelf(t, 1000)
	track, data := append([]byte("ab"), text(40)...), text(60)
	wholeTrack, wholeData := slices.Clone(track), slices.Clone(data)
	o := object(1, 2, 0)
	o.Data = data[:5]
	want := object(1, 2, 5)
	for _, e := range []api.Errno{api.OK, api.ErrExists} {
		if got := s.Put(track[:2], o); got != e {
			t.Fatalf("Put: %d; want %d", got, e)
		}
		if !bytes.Equal(track, wholeTrack) || !bytes.Equal(data, wholeData) {
			t.Fatal("Put changes its arguments")
		}
	}
	shelf.Name(track[:2], at(1, 2))
	s.Get(track[:2], at(1, 2))
	s.Run(track[:2], at(1, 2), at(1, 2))
	s.Last(track[:2])
	if !bytes.Equal(track, wholeTrack) {
		t.Fatal("an argument is changed")
	}
	flip(track)
	flip(data)
	checkHas(t, s, "ab", want)
	checkRun(t, s, "ab", at(1, 2), at(1, 2), want)
	flip(track)
	s.Drop(track[:2])
	if !bytes.Equal(track, wholeTrack) {
		t.Fatal("Drop changes its argument")
	}
}

// No result shares memory with the shelf, with another result or with another object of the same one.
func TestMemoryOfResults(t *testing.T) {
	s := newShelf(t, 1000)
	want := []api.Object{object(1, 0, 5), object(1, 1, 8), object(1, 2, 0), object(1, 3, 32)}
	put(t, s, "a", want...)
	for range 2 {
		for _, x := range want {
			o, ok := s.Get([]byte("a"), x.Place)
			if !ok || !same(o, x) {
				t.Fatalf("Get(%d) = %+v, %t", x.Place, o, ok)
			}
			flip(o.Data)
		}
		l, _ := s.Run([]byte("a"), at(1, 0), at(1, 3))
		m, ok := s.Run([]byte("a"), at(1, 0), at(1, 3))
		if !ok || !slices.EqualFunc(l, want, same) {
			t.Fatalf("Run = %+v, %t", l, ok)
		}
		all := append(slices.Clone(l), m...)
		for i := range all {
			flip(all[i].Data)
			for j := range all {
				if i != j && !same(all[j], want[j%len(want)]) {
					t.Fatalf("objects %d and %d share memory", i, j)
				}
			}
			flip(all[i].Data)
		}
		for _, o := range all {
			flip(o.Data)
		}
		clear(l[:cap(l)])
		if len(m) != len(want) || m[0].Place != want[0].Place {
			t.Fatal("two results of Run share memory")
		}
	}
	checkHas(t, s, "a", want...)
}

func used() uint64 {
	var m runtime.MemStats
	runtime.GC()
	runtime.ReadMemStats(&m)
	return m.HeapAlloc
}

// What was removed takes no memory any more, however it was.
func TestMemoryOfRemoved(t *testing.T) {
	s := newShelf(t, 10000)
	before := used()
	for i := range uint64(200000) {
		put(t, s, "a", object(i, i, 100))
		put(t, s, "b", object(i/10, i, 10))
		if i%50 == 0 {
			s.Drop([]byte("b"))
			s.Drop([]byte{byte(i), byte(i >> 8), 1})
		}
	}
	if after := used(); after > before+500_000 {
		t.Errorf("a shelf of 10000 bytes uses %d", after-before)
	}
	runtime.KeepAlive(s)
}

// Of tracks of which nothing is stored any more only the last place takes memory, however many groups there were.
func TestMemoryOfEmptyTracks(t *testing.T) {
	const groups = 2500
	s := newShelf(t, groups*overhead)
	before := used()
	for i := range byte(200) {
		for group := range uint64(groups) {
			if e := s.Put([]byte{1, i}, object(group, 0, 0)); e != api.OK {
				t.Fatalf("Put: %d", e)
			}
		}
	}
	checkSize(t, s, groups*overhead, groups)
	if after := used(); after > before+3_000_000 {
		t.Errorf("a shelf of %d groups uses %d bytes", groups, after-before)
	}
	for i := range byte(200) {
		checkLast(t, s, string([]byte{1, i}), at(groups-1, 0))
	}
}

// Dropped tracks take no memory any more.
func TestMemoryOfDropped(t *testing.T) {
	s := newShelf(t, 10000)
	before := used()
	for i := range uint64(200000) {
		track := []byte{byte(i), byte(i >> 8), byte(i >> 16), 1}
		if e := s.Put(track, object(1, 2, 3)); e != api.OK {
			t.Fatalf("Put: %d", e)
		}
		s.Drop(track)
	}
	checkSize(t, s, 0, 0)
	if after := used(); after > before+500_000 {
		t.Errorf("an empty shelf uses %d bytes", after-before)
	}
	runtime.KeepAlive(s)
}

// With as many objects as there can be, each in a group of its own, the work of a call doesn't grow.
func TestManyGroups(t *testing.T) {
	const many = mostRoom / overhead
	s := newShelf(t, mostRoom)
	for i := range uint64(many) {
		put(t, s, "a", object(i, 7, 0))
	}
	checkSize(t, s, mostRoom, many)
	for i := range uint64(many) {
		put(t, s, "b", object(0, i, 0))
		checkLacks(t, s, "a", at(i, 7))
	}
	checkSize(t, s, mostRoom, 1)
	if l, ok := s.Run([]byte("b"), at(0, 0), at(0, many-1)); !ok || len(l) != many {
		t.Fatalf("Run returns %d objects", len(l))
	}
	checkPut(t, s, "b", object(0, many, 0), api.ErrLong)
	checkNoRun(t, s, "b", at(0, 0), at(0, many))
	s.Drop([]byte("b"))
	for i := range uint64(many - 1) {
		put(t, s, "a", object(i, 7, 0))
	}
	for i := range uint64(200000) {
		put(t, s, "b", object(i, 1, 0))
		s.Drop([]byte("b"))
	}
	checkSize(t, s, mostRoom-overhead, many-1)
}
