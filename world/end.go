package world

import (
	"bytes"
	"slices"

	"colonnade/api"
	"colonnade/hub"
	"colonnade/talk"
	"colonnade/turn"
	"colonnade/word"
)

// codeNone is the code of the Error for a track that the end does not announce.
const codeNone = 4

// end is a publisher and subscriber, which has one connection.
type end struct {
	talk    *talk.Session
	port    *port
	aliases uint64                  // how many it has used
	tracks  map[string][]api.Object // what it published, by increasing place
	got     []Got
	had     map[receipt]struct{} // the objects among these
}

// receipt is a place that was received for a request.
type receipt struct {
	id    uint64
	place api.Place
}

func newEnd() *end {
	return &end{tracks: map[string][]api.Object{}, had: map[receipt]struct{}{}}
}

func (x *end) join(p *port, lets uint64) {
	x.port = p
	x.talk = talk.New(p.server, lets)
	x.collect()
}

// leave does nothing, as an end has no other peers that it could tell.
func (x *end) leave(uint64) {}

func (x *end) session(uint64) *talk.Session {
	return x.talk
}

func (x *end) hear(_ uint64, m word.Msg) uint64 {
	code := x.talk.Hear(m)
	x.collect()
	if code != 0 {
		return code
	}
	switch m.Kind {
	case word.Announce:
		x.say(word.Msg{Kind: word.AnnounceOK, ID: m.ID})
	case word.Subscribe:
		x.hearSubscribe(m)
	case word.Fetch:
		x.hearFetch(m)
	}
	return 0
}

func (x *end) hearSubscribe(m word.Msg) {
	if !x.announces(m.Name) {
		x.say(word.Msg{Kind: word.SubscribeError, ID: m.ID, Code: codeNone})
		return
	}
	ok := word.Msg{Kind: word.SubscribeOK, ID: m.ID}
	if l := x.tracks[string(m.Name)]; len(l) > 0 {
		ok.Some, ok.Start = true, l[len(l)-1].Place
	}
	x.say(ok)
}

func (x *end) hearFetch(m word.Msg) {
	if !x.announces(m.Name) {
		x.say(word.Msg{Kind: word.FetchError, ID: m.ID, Code: codeNone})
		return
	}
	x.say(word.Msg{Kind: word.FetchOK, ID: m.ID})
	for _, o := range x.tracks[string(m.Name)] {
		if word.Has(m, o.Place) {
			// The stream of a fetch has no Grams.
			o.Gram = false
			x.port.give(hub.Give{Fetch: true, ID: m.ID, Object: o})
		}
	}
	x.port.give(hub.Give{Fetch: true, ID: m.ID, End: true})
	x.talk.Finish(m.ID, false)
	x.collect()
}

// object records an object, but each only once.
func (x *end) object(_ uint64, ask word.Msg, o api.Object) {
	r := receipt{ask.ID, o.Place}
	if _, had := x.had[r]; had || !word.Has(ask, o.Place) {
		return
	}
	x.had[r] = struct{}{}
	x.got = append(x.got, Got{ID: ask.ID, Fetch: ask.Kind == word.Fetch, Track: ask.Name, Object: o})
}

func (x *end) finish(_ uint64, ask word.Msg) {
	x.got = append(x.got, Got{ID: ask.ID, Fetch: true, Track: ask.Name, End: true})
	x.talk.Finish(ask.ID, true)
}

// say sends a message, if it may be sent.
func (x *end) say(m word.Msg) api.Errno {
	m, e := x.talk.Say(m)
	if e != api.OK {
		return e
	}
	x.port.say(m)
	x.collect()
	return api.OK
}

// collect sends what the session sends by itself.
func (x *end) collect() {
	for _, m := range x.talk.Out() {
		x.port.say(m)
	}
}

func (x *end) subscribe(track []byte, m word.Msg) api.Errno {
	m.Kind, m.ID, m.Name, m.Alias = word.Subscribe, 0, track, x.aliases
	e := x.say(m)
	if e == api.OK {
		x.aliases++
	}
	return e
}

func (x *end) fetch(track []byte, m word.Msg) api.Errno {
	m.Kind, m.ID, m.Name = word.Fetch, 0, track
	return x.say(m)
}

// unsubscribe makes an own Subscribe or Fetch over.
func (x *end) unsubscribe(id uint64) api.Errno {
	kind := uint64(word.Unsubscribe)
	if a, _ := x.talk.Find(id); a.Msg.Kind == word.Fetch {
		kind = word.FetchCancel
	}
	return x.say(word.Msg{Kind: kind, ID: id})
}

// announces reports whether the end announces a track.
func (x *end) announces(track []byte) bool {
	return slices.ContainsFunc(x.talk.Asks(true), func(a talk.Ask) bool {
		return a.Msg.Kind == word.Announce && bytes.Equal(a.Msg.Name, track)
	})
}

// publish publishes an object, and sends it for each Subscribe that requests it.
func (x *end) publish(track []byte, o api.Object) api.Errno {
	if !x.announces(track) {
		return api.ErrNone
	}
	if !x.keep(track, &o) {
		return api.ErrExists
	}
	for _, a := range x.talk.Asks(false) {
		m := a.Msg
		if m.Kind == word.Subscribe && a.State == talk.Granted && bytes.Equal(m.Name, track) && word.Has(m, o.Place) {
			x.port.give(hub.Give{ID: m.ID, Alias: m.Alias, Object: o, Rank: turn.Rank(m.Priority, o.Priority, m.Order, o.Group)})
		}
	}
	return api.OK
}

// keep stores an object, with data of its own, unless there is one at its place.
func (x *end) keep(track []byte, o *api.Object) bool {
	l := x.tracks[string(track)]
	i, found := slices.BinarySearchFunc(l, o.Place, func(o api.Object, at api.Place) int {
		switch {
		case word.Less(o.Place, at):
			return -1
		case word.Less(at, o.Place):
			return 1
		}
		return 0
	})
	if found {
		return false
	}
	o.Data = bytes.Clone(o.Data)
	x.tracks[string(track)] = slices.Insert(l, i, *o)
	return true
}
