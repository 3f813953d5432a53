package shelf_test

import (
	"bytes"
	"slices"
	"testing"

	"colonnade/api"
	"colonnade/shelf"
)

const (
	mostRoom = 1048576
	overhead = 16
)

// text returns n bytes that differ from place to place.
func text(n int) []byte {
	p := make([]byte, n)
	for i := range p {
		p[i] = byte(i*7 + i/251 + 0x61)
	}
	return p
}

func at(group, number uint64) api.Place {
	return api.Place{Group: group, Object: number}
}

// object returns an object with size bytes of data, and a priority that tells the place.
func object(group, number uint64, size int) api.Object {
	return api.Object{Place: at(group, number), Priority: byte(group*16 + number + 1), Data: text(size)}
}

func same(a, b api.Object) bool {
	return a.Place == b.Place && a.Priority == b.Priority && a.Gram == b.Gram && bytes.Equal(a.Data, b.Data)
}

func newShelf(t *testing.T, room int) *shelf.Shelf {
	t.Helper()
	s, e := shelf.New(room)
	if e != api.OK || s == nil {
		t.Fatalf("New(%d): %d", room, e)
	}
	return s
}

func put(t *testing.T, s *shelf.Shelf, track string, l ...api.Object) {
	t.Helper()
	for _, o := range l {
		checkPut(t, s, track, o, api.OK)
	}
}

func checkPut(t *testing.T, s *shelf.Shelf, track string, o api.Object, want api.Errno) {
	t.Helper()
	if e := s.Put([]byte(track), o); e != want {
		t.Fatalf("Put(%q, %d with %d bytes): %d; want %d", track, o.Place, len(o.Data), e, want)
	}
}

// checkSize checks how many bytes and groups are stored.
func checkSize(t *testing.T, s *shelf.Shelf, used, groups int) {
	t.Helper()
	if s.Used() != used || s.Groups() != groups {
		t.Fatalf("Used = %d, Groups = %d; want %d, %d", s.Used(), s.Groups(), used, groups)
	}
}

// checkHas checks that an object is stored, unchanged.
func checkHas(t *testing.T, s *shelf.Shelf, track string, l ...api.Object) {
	t.Helper()
	for _, want := range l {
		if o, ok := s.Get([]byte(track), want.Place); !ok || !same(o, want) {
			t.Fatalf("Get(%q, %d) = %+v, %t; want %+v", track, want.Place, o, ok, want)
		}
	}
}

// checkLacks checks that there are no objects at these places.
func checkLacks(t *testing.T, s *shelf.Shelf, track string, l ...api.Place) {
	t.Helper()
	for _, place := range l {
		if o, ok := s.Get([]byte(track), place); ok || !same(o, api.Object{}) {
			t.Fatalf("Get(%q, %d) = %+v, %t", track, place, o, ok)
		}
	}
}

func checkRun(t *testing.T, s *shelf.Shelf, track string, from, to api.Place, want ...api.Object) {
	t.Helper()
	l, ok := s.Run([]byte(track), from, to)
	if !ok || !slices.EqualFunc(l, want, same) {
		t.Fatalf("Run(%q, %d, %d) = %+v, %t; want %+v", track, from, to, l, ok, want)
	}
}

func checkNoRun(t *testing.T, s *shelf.Shelf, track string, from, to api.Place) {
	t.Helper()
	if l, ok := s.Run([]byte(track), from, to); ok || len(l) != 0 {
		t.Fatalf("Run(%q, %d, %d) = %+v, %t", track, from, to, l, ok)
	}
}

func checkLast(t *testing.T, s *shelf.Shelf, track string, want api.Place) {
	t.Helper()
	if place, ok := s.Last([]byte(track)); !ok || place != want {
		t.Fatalf("Last(%q) = %d, %t; want %d", track, place, ok, want)
	}
}

func checkNoLast(t *testing.T, s *shelf.Shelf, track string) {
	t.Helper()
	if place, ok := s.Last([]byte(track)); ok || place != at(0, 0) {
		t.Fatalf("Last(%q) = %d, %t", track, place, ok)
	}
}
