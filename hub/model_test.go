package hub_test

import (
	"cmp"
	"maps"
	"math/rand/v2"
	"slices"
	"testing"

	"colonnade/api"
	"colonnade/hub"
	"colonnade/talk"
	"colonnade/turn"
	"colonnade/word"
)

// wish is a request of a peer that is not over.
type wish struct {
	peer    uint64
	m       word.Msg
	granted bool
	source  uint64 // where a Fetch was asked for, and with which ID
	id      uint64
}

type knownTrack struct {
	source, alias uint64
	feed          int
	id            uint64
	objects       []api.Object // all that were ever stored
}

// model is a plain model of a hub that has room for everything: one list of all requests of all peers, gone through for each question, row by row of the chapter. The sessions are those of layer 17.
type model struct {
	peers  map[uint64]*talk.Session
	closed map[uint64]*talk.Session
	tracks map[string]*knownTrack
	ever   uint64
	wishes []*wish
	said   []hub.Said
	gives  []hub.Give
}

func newModel() *model {
	return &model{peers: map[uint64]*talk.Session{}, closed: map[uint64]*talk.Session{}, tracks: map[string]*knownTrack{}}
}

func sorted[K cmp.Ordered, V any](m map[K]V) []K {
	return slices.Sorted(maps.Keys(m))
}

// pull takes what the session of a peer sends by itself.
func (d *model) pull(peer uint64) {
	for _, m := range d.peers[peer].Out() {
		d.said = append(d.said, hub.Said{Peer: peer, Msg: m})
	}
}

func (d *model) say(peer uint64, m word.Msg) (uint64, bool) {
	m, e := d.peers[peer].Say(m)
	if e == api.OK {
		d.said = append(d.said, hub.Said{Peer: peer, Msg: m})
		d.pull(peer)
	}
	return m.ID, e == api.OK
}

func (d *model) error(peer, kind, id, code uint64) {
	d.say(peer, word.Msg{Kind: kind, ID: id, Code: code})
}

// list returns those wishes that are meant; drop takes them off.
func (d *model) list(meant func(*wish) bool) []*wish {
	var l []*wish
	for _, w := range d.wishes {
		if meant(w) {
			l = append(l, w)
		}
	}
	return l
}

func (d *model) drop(l ...*wish) {
	d.wishes = slices.DeleteFunc(slices.Clone(d.wishes), func(w *wish) bool { return slices.Contains(l, w) })
}

func (d *model) users(name string) []*wish {
	return d.list(func(w *wish) bool { return w.m.Kind == word.Subscribe && string(w.m.Name) == name })
}

func (d *model) fetches(meant func(*wish) bool) []*wish {
	return d.list(func(w *wish) bool { return w.m.Kind == word.Fetch && meant(w) })
}

func (d *model) join(peer uint64, server bool, n uint64) api.Errno {
	switch {
	case d.peers[peer] != nil:
		return api.ErrExists
	case len(d.peers) == 8:
		return api.ErrFull
	}
	d.peers[peer] = talk.New(server, n)
	delete(d.closed, peer)
	d.pull(peer)
	return api.OK
}

func (d *model) leave(peer uint64) api.Errno {
	if d.peers[peer] == nil {
		return api.ErrNone
	}
	delete(d.peers, peer)
	for _, name := range sorted(d.tracks) {
		d.unsubscribe(name, func(w *wish) bool { return w.peer == peer })
		if d.tracks[name].source == peer {
			d.unannounce(name, 6)
		}
	}
	for _, w := range d.fetches(func(w *wish) bool { return w.peer == peer || w.source == peer }) {
		d.drop(w)
		switch {
		case w.peer == peer:
			d.say(w.source, about(word.FetchCancel, w.id))
		case w.granted:
			d.end(w)
		default:
			d.error(w.peer, word.FetchError, w.m.ID, 6)
		}
	}
	return api.OK
}

func (d *model) hear(peer uint64, m word.Msg) uint64 {
	s := d.peers[peer]
	if s == nil {
		return 0
	}
	code := s.Hear(m)
	d.pull(peer)
	if code != 0 {
		d.leave(peer)
		d.closed[peer] = s
		return code
	}
	d.effect(peer, m)
	return 0
}

func (d *model) effect(peer uint64, m word.Msg) {
	name := string(m.Name)
	switch m.Kind {
	case word.ClientSetup, word.ServerSetup:
		for _, name := range sorted(d.tracks) {
			d.say(peer, announce(0, name))
		}
	case word.Announce:
		d.announce(peer, m.ID, name)
	case word.Unannounce:
		d.unannounce(name, 3)
	case word.Subscribe:
		d.subscribe(peer, m)
	case word.Unsubscribe:
		for _, name := range sorted(d.tracks) {
			d.unsubscribe(name, func(w *wish) bool { return w.peer == peer && w.m.ID == m.ID })
		}
	case word.SubscribeOK, word.SubscribeError, word.SubscribeDone:
		for _, name := range sorted(d.tracks) {
			if k := d.tracks[name]; k.source == peer && k.feed != none && k.id == m.ID {
				d.answered(name, m)
			}
		}
	case word.Fetch:
		d.fetch(peer, m)
	case word.FetchOK, word.FetchError:
		for _, w := range d.fetches(func(w *wish) bool { return w.source == peer && w.id == m.ID }) {
			w.granted = m.Kind == word.FetchOK
			d.error(w.peer, m.Kind, w.m.ID, m.Code)
			if !w.granted {
				d.drop(w)
			}
		}
	case word.FetchCancel:
		for _, w := range d.fetches(func(w *wish) bool { return w.peer == peer && w.m.ID == m.ID }) {
			d.drop(w)
			d.say(w.source, about(word.FetchCancel, w.id))
		}
	}
}

func (d *model) announce(peer, id uint64, name string) {
	if d.tracks[name] != nil {
		d.error(peer, word.AnnounceError, id, 1)
		return
	}
	if len(d.tracks) == 16 {
		d.error(peer, word.AnnounceError, id, 2)
		return
	}
	d.tracks[name] = &knownTrack{source: peer, alias: d.ever}
	d.ever++
	d.say(peer, about(word.AnnounceOK, id))
	for _, other := range sorted(d.peers) {
		if other != peer {
			d.say(other, announce(0, name))
		}
	}
}

func (d *model) unannounce(name string, code uint64) {
	k := d.tracks[name]
	delete(d.tracks, name)
	if k.feed != none {
		d.say(k.source, about(word.Unsubscribe, k.id))
	}
	d.dismiss(name, code)
	for _, other := range sorted(d.peers) {
		if other != k.source {
			d.say(other, unannounce(name))
		}
	}
}

func (d *model) dismiss(name string, code uint64) {
	for _, w := range d.users(name) {
		if w.granted {
			d.error(w.peer, word.SubscribeDone, w.m.ID, code)
		} else {
			d.error(w.peer, word.SubscribeError, w.m.ID, code)
		}
		d.drop(w)
	}
}

func (d *model) subscribe(peer uint64, m word.Msg) {
	k := d.tracks[string(m.Name)]
	if k == nil || k.source == peer {
		d.error(peer, word.SubscribeError, m.ID, 4)
		return
	}
	if k.feed == none {
		id, ok := d.say(k.source, subscribe(0, k.alias, string(m.Name)))
		if !ok {
			d.error(peer, word.SubscribeError, m.ID, 5)
			return
		}
		k.feed, k.id = asked, id
	}
	w := &wish{peer: peer, m: m}
	d.wishes = append(d.wishes, w)
	if k.feed == granted {
		d.grant(k, w)
	}
}

func (d *model) grant(k *knownTrack, w *wish) {
	ok := about(word.SubscribeOK, w.m.ID)
	for _, o := range k.objects {
		if ok.Some = true; ok.Start.Group < o.Group || ok.Start.Group == o.Group && ok.Start.Object < o.Object {
			ok.Start = o.Place
		}
	}
	_, w.granted = d.say(w.peer, ok)
}

func (d *model) unsubscribe(name string, meant func(*wish) bool) {
	k := d.tracks[name]
	for _, w := range d.users(name) {
		if meant(w) {
			d.drop(w)
			if len(d.users(name)) == 0 {
				d.say(k.source, about(word.Unsubscribe, k.id))
				k.feed = none
			}
		}
	}
}

func (d *model) answered(name string, m word.Msg) {
	k := d.tracks[name]
	if m.Kind != word.SubscribeOK {
		k.feed = none
		d.dismiss(name, m.Code)
		return
	}
	k.feed = granted
	for _, w := range d.users(name) {
		d.grant(k, w)
	}
}

// run returns the objects of all places of a Fetch, or false if one is missing.
func (k *knownTrack) run(m word.Msg) ([]api.Object, bool) {
	if m.Start.Group != m.End.Group {
		return nil, false
	}
	var l []api.Object
	for place := m.Start; place.Object <= m.End.Object; place.Object++ {
		i := slices.IndexFunc(k.objects, func(o api.Object) bool { return o.Place == place })
		if i < 0 {
			return nil, false
		}
		o := k.objects[i]
		o.Gram = false
		l = append(l, o)
	}
	return l, true
}

func (d *model) fetch(peer uint64, m word.Msg) {
	k := d.tracks[string(m.Name)]
	if k == nil {
		d.error(peer, word.FetchError, m.ID, 4)
		return
	}
	if l, ok := k.run(m); ok {
		d.say(peer, about(word.FetchOK, m.ID))
		d.gives = append(d.gives, answer(peer, m.ID, l...)...)
		d.end(&wish{peer: peer, m: m})
		return
	}
	if k.source == peer {
		d.error(peer, word.FetchError, m.ID, 4)
		return
	}
	w := &wish{peer: peer, m: m, source: k.source}
	m.ID = 0
	id, ok := d.say(k.source, m)
	if !ok {
		d.error(peer, word.FetchError, w.m.ID, 5)
		return
	}
	w.id = id
	d.wishes = append(d.wishes, w)
}

func (d *model) end(w *wish) {
	d.gives = append(d.gives, end(w.peer, w.m.ID))
	d.peers[w.peer].Finish(w.m.ID, false)
	d.pull(w.peer)
}

func (d *model) object(peer, alias uint64, o api.Object) api.Errno {
	for name, k := range d.tracks {
		if k.source != peer || k.alias != alias || k.feed != granted || d.peers[peer] == nil {
			continue
		}
		if slices.ContainsFunc(k.objects, func(old api.Object) bool { return old.Place == o.Place }) {
			return api.OK
		}
		k.objects = append(k.objects, o)
		for _, w := range d.users(name) {
			if w.granted && word.Has(w.m, o.Place) {
				g := given(w.peer, w.m.ID, w.m.Alias, o)
				g.Rank = turn.Rank(w.m.Priority, o.Priority, w.m.Order, o.Group)
				d.gives = append(d.gives, g)
			}
		}
		return api.OK
	}
	return api.ErrNone
}

func (d *model) fetched(peer, id uint64, o api.Object, last bool) api.Errno {
	l := d.fetches(func(w *wish) bool { return w.source == peer && w.id == id && w.granted && d.peers[peer] != nil })
	if len(l) == 0 {
		return api.ErrNone
	}
	if last {
		d.drop(l[0])
		d.peers[peer].Finish(id, true)
		d.end(l[0])
	} else if word.Has(l[0].m, o.Place) {
		d.gives = append(d.gives, answer(l[0].peer, l[0].m.ID, o)...)
	}
	return api.OK
}

func (d *model) used() int {
	n := 0
	for _, k := range d.tracks {
		for _, o := range k.objects {
			n += len(o.Data) + overhead
		}
	}
	return n
}

var modelNames = []string{"t", "t\x00", "a", "ab", "b"}

// check checks all that a hub tells against the model.
func (d *model) check(t *testing.T, h *hub.Hub) {
	t.Helper()
	checkPeers(t, h, sorted(d.peers)...)
	checkTracks(t, h, sorted(d.tracks)...)
	checkUsed(t, h, d.used())
	for _, name := range modelNames {
		feed := none
		if k := d.tracks[name]; k != nil {
			feed = k.feed
		}
		checkFeed(t, h, name, feed, len(d.users(name)))
	}
	for peer := range uint64(12) {
		want := d.peers[peer]
		if want == nil {
			want = d.closed[peer]
		}
		s := h.Session(peer)
		if (s == nil) != (want == nil) || s.Up() != want.Up() || s.Code() != want.Code() ||
			!slices.EqualFunc(s.Asks(true), want.Asks(true), sameAsk) || !slices.EqualFunc(s.Asks(false), want.Asks(false), sameAsk) {
			t.Fatalf("the session of %d differs", peer)
		}
	}
	for name, k := range d.tracks {
		checkOneFeed(t, h, name, k.source)
	}
}

// checkOneFeed checks that a track has one request at its source if there are users, and otherwise none.
func checkOneFeed(t *testing.T, h *hub.Hub, name string, source uint64) {
	t.Helper()
	n := 0
	for _, a := range h.Session(source).Asks(true) {
		if a.Msg.Kind == word.Subscribe && string(a.Msg.Name) == name {
			n++
		}
	}
	users := h.Users([]byte(name))
	if n > 1 || (n == 1) != (users > 0) || (h.Feed([]byte(name)) != none) != (users > 0) {
		t.Fatalf("%q has %d requests at its source, the feed %d and %d users", name, n, h.Feed([]byte(name)), users)
	}
}

// drawn is what the messages of a peer are drawn with.
type drawn struct {
	random *rand.Rand
	d      *model
	next   map[uint64]uint64 // the IDs of the peers' next requests
	n      map[uint64]uint64 // how many requests they permit
}

func (x *drawn) place() api.Place {
	return at(x.random.Uint64N(4), x.random.Uint64N(5))
}

func (x *drawn) pick(l []word.Msg) word.Msg {
	return l[x.random.IntN(len(l))]
}

// request returns a request of a peer.
func (x *drawn) request(peer uint64) word.Msg {
	name := modelNames[x.random.IntN(len(modelNames))]
	if known := sorted(x.d.tracks); len(known) > 0 && x.random.IntN(4) > 0 {
		name = known[x.random.IntN(len(known))]
	}
	m := word.Msg{ID: x.next[peer], Name: []byte(name)}
	switch x.random.IntN(8) {
	case 0:
		m.Kind = word.Announce
	case 1, 2, 3, 4:
		m.Kind, m.Order, m.Priority, m.Start = word.Subscribe, byte(1+x.random.IntN(2)), byte(x.random.IntN(9)), x.place()
		m.Alias = x.random.Uint64N(40)
		if x.random.IntN(3) == 0 {
			m.End.Group = m.Start.Group + 1 + x.random.Uint64N(2)
		}
	default:
		m.Kind, m.Priority, m.Start = word.Fetch, byte(x.random.IntN(9)), x.place()
		m.End = at(m.Start.Group, m.Start.Object+x.random.Uint64N(3))
		if x.random.IntN(4) == 0 {
			m.End.Group++
		}
	}
	return m
}

// matter returns what a peer may say about one of the requests that are not over.
func (x *drawn) matter(peer uint64) word.Msg {
	l := []word.Msg{maxRequest(x.n[peer] + 1)}
	code := 10 + x.random.Uint64N(2)
	for _, a := range x.d.peers[peer].Asks(true) {
		id, isGranted := a.Msg.ID, a.State == talk.Granted
		switch {
		case a.Msg.Kind == word.Subscribe && isGranted:
			l = append(l, over(word.SubscribeDone, id, code))
		case a.Msg.Kind == word.Subscribe:
			l = append(l, about(word.SubscribeOK, id), okAt(id, x.place()), about(word.SubscribeOK, id), over(word.SubscribeError, id, code))
		case a.Msg.Kind == word.Announce && !isGranted:
			l = append(l, about(word.AnnounceOK, id))
		case a.Msg.Kind == word.Fetch && !isGranted:
			l = append(l, about(word.FetchOK, id), about(word.FetchOK, id), over(word.FetchError, id, code))
		}
	}
	for _, a := range x.d.peers[peer].Asks(false) {
		switch a.Msg.Kind {
		case word.Subscribe:
			l = append(l, about(word.Unsubscribe, a.Msg.ID))
		case word.Fetch:
			l = append(l, about(word.FetchCancel, a.Msg.ID))
		case word.Announce:
			if x.random.IntN(9) == 0 {
				l = append(l, unannounce(string(a.Msg.Name)))
			}
		}
	}
	return x.pick(l)
}

// message returns a message of a peer, now and then a wrong one or one about a request that is over.
func (x *drawn) message(peer uint64) word.Msg {
	s := x.d.peers[peer]
	switch {
	case s == nil:
		return setupFrom(false, 3)
	case !s.Up() && x.random.IntN(60) > 0:
		// It is a client if it has sent its Setup by itself; the model knows by the parity of the IDs.
		return setupFrom(x.next[peer] == 1, x.n[peer])
	case x.random.IntN(300) == 0:
		return word.Msg{Kind: x.random.Uint64N(40)}
	case x.random.IntN(60) == 0:
		kinds := []uint64{word.SubscribeOK, word.SubscribeError, word.SubscribeDone, word.Unsubscribe, word.FetchOK, word.FetchError, word.FetchCancel}
		return about(kinds[x.random.IntN(len(kinds))], x.random.Uint64N(30))
	case x.random.IntN(3) == 0:
		return x.request(peer)
	}
	return x.matter(peer)
}

// step does one thing with both the model and the hub, and returns what it did.
func (x *drawn) step(t *testing.T, h *hub.Hub) string {
	peer := x.random.Uint64N(10)
	what, got, want := "", api.OK, api.OK
	switch x.random.IntN(20) {
	case 0, 1:
		server, n := x.random.IntN(2) == 0, 3+x.random.Uint64N(5)
		what, got, want = "Join", h.Join(peer, server, n), x.d.join(peer, server, n)
		if got == api.OK {
			x.n[peer], x.next[peer] = 1+x.random.Uint64N(20), 0
			if !server {
				x.next[peer] = 1
			}
		}
	case 2:
		if x.random.IntN(8) == 0 {
			what, got, want = "Leave", h.Leave(peer), x.d.leave(peer)
		}
	case 3, 4, 5:
		alias, o := x.random.Uint64N(x.d.ever+1), x.object()
		for _, name := range sorted(x.d.tracks) {
			if k := x.d.tracks[name]; k.feed == granted && x.random.IntN(2) == 0 {
				peer, alias = k.source, k.alias
			}
		}
		what, got, want = "Object", h.Object(peer, alias, o), x.d.object(peer, alias, o)
	case 6, 7:
		id, o, last := x.random.Uint64N(20), x.object(), x.random.IntN(4) == 0
		if l := x.d.fetches(func(w *wish) bool { return w.granted }); len(l) > 0 {
			w := l[x.random.IntN(len(l))]
			peer, id = w.source, w.id
		}
		what, got, want = "Fetched", h.Fetched(peer, id, o, last), x.d.fetched(peer, id, o, last)
	default:
		x.hear(t, h, peer)
		return "Hear"
	}
	if got != want {
		t.Fatalf("%s of %d: %d; want %d", what, peer, got, want)
	}
	return what
}

func (x *drawn) object() api.Object {
	place := x.place()
	o := object(place.Group, place.Object, x.random.IntN(20))
	o.Gram = x.random.IntN(4) == 0
	return o
}

func (x *drawn) hear(t *testing.T, h *hub.Hub, peer uint64) {
	m := x.message(peer)
	there := x.d.peers[peer] != nil
	got, want := h.Hear(peer, m), x.d.hear(peer, m)
	if got != want {
		t.Fatalf("Hear(%d, %+v) = %x; want %x", peer, m, got, want)
	}
	if there && got == 0 {
		switch m.Kind {
		case word.Announce, word.Subscribe, word.Fetch:
			x.next[peer] += 2
		case word.MaxRequest:
			x.n[peer] = m.N
		}
	}
}

// Whatever is done, a hub does what the chapter's rows say.
func TestAgainstModel(t *testing.T) {
	random := rand.New(rand.NewPCG(20, 1))
	said, gives := map[[2]uint64]int{}, map[[2]bool]int{}
	for range 150 {
		x := &drawn{random: random, d: newModel(), next: map[uint64]uint64{}, n: map[uint64]uint64{}}
		h := newHub(t, most)
		for range 600 {
			x.step(t, h)
			x.d.check(t, h)
			if random.IntN(3) > 0 {
				continue
			}
			for _, s := range x.d.said {
				said[[2]uint64{s.Msg.Kind, s.Msg.Code}]++
			}
			for _, g := range x.d.gives {
				gives[[2]bool{g.Fetch, g.End}]++
			}
			checkOut(t, h, x.d.said, x.d.gives)
			x.d.said, x.d.gives = nil, nil
		}
	}
	for _, x := range [][2]uint64{
		{word.Announce, 0}, {word.AnnounceOK, 0}, {word.AnnounceError, 1}, {word.Unannounce, 0}, {word.Subscribe, 0}, {word.Unsubscribe, 0},
		{word.SubscribeOK, 0}, {word.SubscribeError, 3}, {word.SubscribeError, 4}, {word.SubscribeError, 5}, {word.SubscribeError, 6}, {word.SubscribeError, 10},
		{word.SubscribeDone, 3}, {word.SubscribeDone, 6}, {word.SubscribeDone, 10}, {word.Fetch, 0}, {word.FetchCancel, 0}, {word.FetchOK, 0},
		{word.FetchError, 4}, {word.FetchError, 5}, {word.FetchError, 6}, {word.FetchError, 10}, {word.MaxRequest, 0},
	} {
		if said[x] < 30 {
			t.Errorf("the kind %x was sent with the code %d only %d times", x[0], x[1], said[x])
		}
	}
	for _, x := range [][2]bool{{false, false}, {true, false}, {true, true}} {
		if gives[x] < 100 {
			t.Errorf("only %d were given with Fetch and End %t", gives[x], x)
		}
	}
}
