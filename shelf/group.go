package shelf

import (
	"colonnade/api"
	"colonnade/word"
)

// track is what is kept of a track until it is dropped.
type track struct {
	name   [api.MaxName]byte
	last   api.Place         // the largest one at which an object was ever stored
	groups map[uint64]*group // those that are stored
}

// key returns the key of the track's object at a place.
func (t *track) key(at api.Place) api.Key {
	return api.Key{Track: t.name, Place: at}
}

// saw takes note that an object is stored at a place.
func (t *track) saw(at api.Place) {
	if word.Less(t.last, at) {
		t.last = at
	}
}

// group returns the group with that number, or nil if it is not stored.
func (t *track) group(number uint64) *group {
	if t == nil {
		return nil
	}
	return t.groups[number]
}

// begin adds a group without objects.
func (t *track) begin(number uint64) *group {
	g := &group{track: t, number: number}
	if t.groups == nil {
		t.groups = map[uint64]*group{}
	}
	t.groups[number] = g
	return g
}

// forget leaves out the group with that number.
func (t *track) forget(number uint64) {
	delete(t.groups, number)
	// An empty map would keep the memory that it had for more.
	if len(t.groups) == 0 {
		t.groups = nil
	}
}

// group is a stored group of a track.
type group struct {
	*track
	number        uint64
	numbers       []uint64 // of its objects, in the order in which they came
	used          int
	before, after *group // in the queue
}

// member returns the key of the group's object with that number.
func (g *group) member(number uint64) api.Key {
	return g.key(api.Place{Group: g.number, Object: number})
}
