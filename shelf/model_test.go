package shelf_test

import (
	"math"
	"math/rand/v2"
	"slices"
	"strings"
	"testing"

	"colonnade/api"
	"colonnade/shelf"
)

// stored is an object with its track's name, without zero bytes at its end.
type stored struct {
	track string
	o     api.Object
}

// model is a shelf as a list of what is stored, in the order in which it came.
type model struct {
	room int
	list []stored
	last map[string]api.Place
}

func trim(track string) (string, api.Errno) {
	switch {
	case len(track) == 0:
		return "", api.ErrShort
	case len(track) > api.MaxName:
		return "", api.ErrLong
	}
	return strings.TrimRight(track, "\x00"), api.OK
}

func bytesOf(l []stored) int {
	n := 0
	for _, x := range l {
		n += len(x.o.Data) + overhead
	}
	return n
}

// group returns what is stored of a group.
func (m *model) group(track string, number uint64) []stored {
	var l []stored
	for _, x := range m.list {
		if x.track == track && x.o.Group == number {
			l = append(l, x)
		}
	}
	return l
}

// groups returns one object for each group: the first.
func (m *model) groups() []stored {
	var l []stored
	for _, x := range m.list {
		if !slices.ContainsFunc(l, func(y stored) bool { return y.track == x.track && y.o.Group == x.o.Group }) {
			l = append(l, x)
		}
	}
	return l
}

func (m *model) remove(goes func(stored) bool) {
	m.list = slices.DeleteFunc(slices.Clone(m.list), goes)
}

func (m *model) put(name string, o api.Object) api.Errno {
	track, e := trim(name)
	if e != api.OK {
		return e
	}
	if _, ok := m.get(name, o.Place); ok {
		return api.ErrExists
	}
	o.Gram = false
	more := stored{track, o}
	if bytesOf(append(m.group(track, o.Group), more)) > m.room {
		return api.ErrLong
	}
	for _, g := range m.groups() {
		if bytesOf(append(slices.Clone(m.list), more)) <= m.room {
			break
		}
		if g.track != track || g.o.Group != o.Group {
			m.remove(func(x stored) bool { return x.track == g.track && x.o.Group == g.o.Group })
		}
	}
	m.list = append(m.list, more)
	if p, ok := m.last[track]; !ok || p.Group < o.Group || p.Group == o.Group && p.Object < o.Object {
		m.last[track] = o.Place
	}
	return api.OK
}

func (m *model) get(name string, place api.Place) (api.Object, bool) {
	track, e := trim(name)
	for _, x := range m.list {
		if e == api.OK && x.track == track && x.o.Place == place {
			return x.o, true
		}
	}
	return api.Object{}, false
}

func (m *model) run(name string, from, to api.Place) ([]api.Object, bool) {
	if from.Group != to.Group || from.Object > to.Object {
		return nil, false
	}
	var l []api.Object
	for place := from; ; place.Object++ {
		o, ok := m.get(name, place)
		if !ok {
			return nil, false
		}
		l = append(l, o)
		if place == to {
			return l, true
		}
	}
}

func (m *model) drop(name string) {
	if track, e := trim(name); e == api.OK {
		m.remove(func(x stored) bool { return x.track == track })
		delete(m.last, track)
	}
}

// base is where the numbers that are drawn begin, so that they are also those at the end.
type base struct{ group, number uint64 }

func (b base) draw(random *rand.Rand) api.Place {
	return at(b.group+random.Uint64N(4), b.number+random.Uint64N(5))
}

var modelNames = []string{"a", "b", "a\x00", "ab", "\x00", string(text(32)), "", string(text(33)), string(make([]byte, 33))}

// compare checks all that a shelf tells against the model.
func (m *model) compare(t *testing.T, s *shelf.Shelf, b base, random *rand.Rand) {
	t.Helper()
	checkSize(t, s, bytesOf(m.list), len(m.groups()))
	if s.Used() > m.room {
		t.Fatalf("Used = %d in a room of %d", s.Used(), m.room)
	}
	for _, name := range modelNames {
		track, e := trim(name)
		if last, ok := m.last[track]; ok && e == api.OK {
			checkLast(t, s, name, last)
		} else {
			checkNoLast(t, s, name)
		}
		from, to := b.draw(random), b.draw(random)
		if random.IntN(4) > 0 {
			to.Group = from.Group
		}
		if l, ok := m.run(name, from, to); ok {
			checkRun(t, s, name, from, to, l...)
		} else {
			checkNoRun(t, s, name, from, to)
		}
		if o, ok := m.get(name, from); ok {
			checkHas(t, s, name, o)
		} else {
			checkLacks(t, s, name, from)
		}
	}
	for _, x := range m.list {
		name := x.track
		if name == "" {
			name = "\x00"
		}
		checkHas(t, s, name, x.o)
	}
}

// Whatever is done, a shelf is what a list of its objects is.
func TestAgainstModel(t *testing.T) {
	random := rand.New(rand.NewPCG(18, 1))
	results := map[api.Errno]int{}
	for _, room := range []int{1, 16, 40, 100, 300, 1000} {
		for _, b := range []base{{}, {api.MaxNum - 2, api.MaxNum - 3}, {math.MaxUint64 - 3, math.MaxUint64 - 4}} {
			for range 25 {
				m, s := &model{room: room, last: map[string]api.Place{}}, newShelf(t, room)
				for range 80 {
					name := modelNames[random.IntN(len(modelNames))]
					if random.IntN(25) == 0 {
						m.drop(name)
						s.Drop([]byte(name))
					}
					place := b.draw(random)
					o := object(place.Group, place.Object, random.IntN(1+random.IntN(1+random.IntN(room))))
					o.Priority, o.Gram = byte(random.Uint32()), random.IntN(2) == 0
					want := m.put(name, o)
					checkPut(t, s, name, o, want)
					results[want]++
					m.compare(t, s, b, random)
				}
			}
		}
	}
	for _, e := range []api.Errno{api.OK, api.ErrShort, api.ErrLong, api.ErrExists} {
		if results[e] < 500 {
			t.Errorf("only %d results are %d", results[e], e)
		}
	}
}
