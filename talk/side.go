package talk

import (
	"bytes"
	"slices"

	"colonnade/word"
)

// side is the requests that one side makes.
type side struct {
	first   uint64              // the ID of the first one
	may     uint64              // how many it may make in total
	made    []Ask               // all of them, by increasing ID
	live    []uint64            // the IDs of those that are not over, increasing
	aliases map[uint64]struct{} // those of the Subscribes that are not over
}

func newSide(server bool) side {
	d := side{aliases: map[uint64]struct{}{}}
	if server {
		d.first = 1
	}
	return d
}

// next returns the ID of the next request.
func (d *side) next() uint64 {
	return d.first + 2*uint64(len(d.made))
}

// full reports whether as many requests as are permitted were made.
func (d *side) full() bool {
	return uint64(len(d.made)) >= d.may
}

// collides reports whether m is a Subscribe with the alias of another one that is not over.
func (d *side) collides(m word.Msg) bool {
	_, used := d.aliases[m.Alias]
	return used && m.Kind == word.Subscribe
}

// add makes m, which has the next ID, a request.
func (d *side) add(m word.Msg) {
	d.made = append(d.made, Ask{clone(m), Waiting})
	d.live = append(d.live, m.ID)
	if m.Kind == word.Subscribe {
		d.aliases[m.Alias] = struct{}{}
	}
}

// end makes a request over that isn't yet.
func (d *side) end(a *Ask) {
	a.State = Over
	i, _ := slices.BinarySearch(d.live, a.Msg.ID)
	d.live = slices.Delete(d.live, i, i+1)
	if a.Msg.Kind == word.Subscribe {
		delete(d.aliases, a.Msg.Alias)
	}
}

// find returns the request with that ID, or nil if the side never made it.
func (d *side) find(id uint64) *Ask {
	i := id / 2
	if id%2 != d.first || i >= uint64(len(d.made)) {
		return nil
	}
	return &d.made[i]
}

// ask returns the request of that kind with that ID, or nil if the side never made it.
func (d *side) ask(id, kind uint64) *Ask {
	a := d.find(id)
	if a == nil || a.Msg.Kind != kind {
		return nil
	}
	return a
}

// announced returns the first granted Announce of that name, or nil if there is none.
func (d *side) announced(name []byte) *Ask {
	for _, id := range d.live {
		a := d.find(id)
		if a.Msg.Kind == word.Announce && a.State == Granted && bytes.Equal(a.Msg.Name, name) {
			return a
		}
	}
	return nil
}

func (a *Ask) copy() Ask {
	return Ask{clone(a.Msg), a.State}
}
