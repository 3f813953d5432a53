package talk_test

import (
	"bytes"
	"math/rand/v2"
	"slices"
	"testing"

	"colonnade/api"
	"colonnade/talk"
	"colonnade/word"
)

// entry is a request of a model.
type entry struct {
	own   bool
	m     word.Msg
	state int
}

// model is a plain model of a session: one list of all requests, gone through for each question, row by row of the chapter.
type model struct {
	server    bool
	met       bool
	code      uint64
	lets, may uint64
	list      []*entry
	out       []word.Msg
}

func newModel(server bool, lets uint64) *model {
	d := &model{server: server, lets: min(lets, most)}
	if !server {
		d.out = append(d.out, clientSetup(d.lets, 1))
	}
	return d
}

func (d *model) filter(own bool, ok func(*entry) bool) []*entry {
	var l []*entry
	for _, r := range d.list {
		if r.own == own && ok(r) {
			l = append(l, r)
		}
	}
	return l
}

func (d *model) count(own bool) uint64 {
	return uint64(len(d.filter(own, func(*entry) bool { return true })))
}

func (d *model) next(own bool) uint64 {
	return d.count(own)*2 + first(d.server == own)
}

// get returns the request of that kind and ID, or nil.
func (d *model) get(own bool, kind, id uint64) *entry {
	l := d.filter(own, func(r *entry) bool { return r.m.Kind == kind && r.m.ID == id })
	if len(l) == 0 {
		return nil
	}
	return l[0]
}

func (d *model) aliased(own bool, m word.Msg) bool {
	return m.Kind == word.Subscribe && len(d.filter(own, func(r *entry) bool {
		return r.m.Kind == word.Subscribe && r.m.Alias == m.Alias && r.state != talk.Over
	})) > 0
}

// announced returns the first granted Announce of a name, or nil.
func (d *model) announced(own bool, name []byte) *entry {
	l := d.filter(own, func(r *entry) bool {
		return r.m.Kind == word.Announce && bytes.Equal(r.m.Name, name) && r.state == talk.Granted
	})
	if len(l) == 0 {
		return nil
	}
	return l[0]
}

// kindOf returns the kind of the request that an OK or an Error answers, or 0.
func kindOf(answer uint64) uint64 {
	for i, kind := range requestKinds {
		if answer == okKinds[i] || answer == errorKinds[i] {
			return kind
		}
	}
	return 0
}

// wrong returns the code of a message that is heard, or 0. It changes nothing.
func (d *model) wrong(m word.Msg) uint64 {
	_, e := word.Bytes(m)
	setup := m.Kind == word.ClientSetup || m.Kind == word.ServerSetup
	switch {
	case e != api.OK, !d.met && m.Kind != setupFrom(!d.server, 0).Kind, d.met && setup:
		return api.SessionBroken
	case m.Kind == word.ClientSetup && !slices.Contains(m.Versions, 1), m.Kind == word.ServerSetup && m.Version != 1:
		return api.SessionVersion
	}
	broken := false
	switch m.Kind {
	case word.Subscribe, word.Announce, word.Fetch:
		switch {
		case m.ID != d.next(false):
			return api.SessionBadID
		case d.count(false) >= d.lets:
			return api.SessionTooMany
		case d.aliased(false, m):
			return api.SessionAlias
		}
	case word.SubscribeOK, word.SubscribeError, word.AnnounceOK, word.AnnounceError, word.FetchOK, word.FetchError:
		r := d.get(true, kindOf(m.Kind), m.ID)
		broken = r == nil || r.state == talk.Granted
	case word.SubscribeDone:
		r := d.get(true, word.Subscribe, m.ID)
		broken = r == nil || r.state == talk.Waiting
	case word.Unsubscribe:
		broken = d.get(false, word.Subscribe, m.ID) == nil
	case word.FetchCancel:
		broken = d.get(false, word.Fetch, m.ID) == nil
	case word.Unannounce:
		broken = d.announced(false, m.Name) == nil
	case word.MaxRequest:
		broken = min(m.N, most) <= d.may
	case word.Goaway:
		broken = d.server
	}
	if broken {
		return api.SessionBroken
	}
	return 0
}

// set gives a request a state, unless it is over.
func (d *model) set(r *entry, state int) {
	if r.state == talk.Over {
		return
	}
	r.state = state
	if state == talk.Over && !r.own && d.lets < most {
		d.lets++
		d.out = append(d.out, maxRequest(d.lets))
	}
}

// apply makes m, which is all right, have its effect. It was said by this side (own) or heard.
func (d *model) apply(own bool, m word.Msg) {
	switch m.Kind {
	case word.ClientSetup, word.ServerSetup:
		d.met, d.may = true, min(m.N, most)
		if d.server {
			d.out = append(d.out, serverSetup(d.lets, 1))
		}
	case word.Subscribe, word.Announce, word.Fetch:
		d.list = append(d.list, &entry{own, m, talk.Waiting})
	case word.SubscribeOK, word.AnnounceOK, word.FetchOK:
		d.set(d.get(!own, kindOf(m.Kind), m.ID), talk.Granted)
	case word.SubscribeError, word.AnnounceError, word.FetchError:
		d.set(d.get(!own, kindOf(m.Kind), m.ID), talk.Over)
	case word.SubscribeDone:
		d.set(d.get(!own, word.Subscribe, m.ID), talk.Over)
	case word.Unsubscribe:
		d.set(d.get(own, word.Subscribe, m.ID), talk.Over)
	case word.FetchCancel:
		d.set(d.get(own, word.Fetch, m.ID), talk.Over)
	case word.Unannounce:
		d.set(d.announced(own, m.Name), talk.Over)
	case word.MaxRequest:
		d.may = min(m.N, most)
	}
}

func (d *model) hear(m word.Msg) uint64 {
	if d.code == 0 {
		if d.code = d.wrong(m); d.code == 0 {
			d.apply(false, m)
		}
	}
	return d.code
}

// refused returns all errors of a message that is to be said.
func (d *model) refused(m word.Msg) []api.Errno {
	var l []api.Errno
	add := func(e api.Errno, is bool) {
		if is {
			l = append(l, e)
		}
	}
	in := func(r *entry, states ...int) bool { return r != nil && slices.Contains(states, r.state) }
	request := slices.Contains(requestKinds, m.Kind)
	_, e := word.Bytes(m)
	add(api.ErrForm, e != api.OK || request && m.ID != 0)
	add(api.ErrForm, m.Kind == word.ClientSetup || m.Kind == word.ServerSetup || m.Kind == word.MaxRequest)
	add(api.ErrState, !d.met || m.Kind == word.Goaway && !d.server)
	add(api.ErrExists, d.aliased(true, m))
	add(api.ErrCredit, request && d.count(true) >= d.may)
	if kind := kindOf(m.Kind); kind != 0 {
		add(api.ErrNone, !in(d.get(false, kind, m.ID), talk.Waiting))
	}
	add(api.ErrNone, m.Kind == word.SubscribeDone && !in(d.get(false, word.Subscribe, m.ID), talk.Granted))
	add(api.ErrNone, m.Kind == word.Unsubscribe && !in(d.get(true, word.Subscribe, m.ID), talk.Waiting, talk.Granted))
	add(api.ErrNone, m.Kind == word.FetchCancel && !in(d.get(true, word.Fetch, m.ID), talk.Waiting, talk.Granted))
	add(api.ErrNone, m.Kind == word.Unannounce && d.announced(true, m.Name) == nil)
	return l
}

func (d *model) say(m word.Msg) (word.Msg, api.Errno) {
	if d.code != 0 {
		return word.Msg{}, api.ErrClosed
	}
	if l := d.refused(m); len(l) > 0 {
		return word.Msg{}, slices.Min(l)
	}
	if slices.Contains(requestKinds, m.Kind) {
		m.ID = d.next(true)
	}
	d.apply(true, m)
	return m, api.OK
}

func (d *model) finish(id uint64, own bool) api.Errno {
	r := d.get(own, word.Fetch, id)
	if r == nil || r.state != talk.Granted {
		return api.ErrNone
	}
	d.set(r, talk.Over)
	return api.OK
}

var allKinds = []uint64{0x03, 0x04, 0x05, 0x06, 0x07, 0x08, 0x09, 0x0a, 0x0b, 0x10, 0x15, 0x16, 0x17, 0x18, 0x19, 0x20, 0x21}

// drawMsg returns a message, now and then an invalid one, about one of few requests.
func drawMsg(random *rand.Rand, d *model) word.Msg {
	m := word.Msg{Kind: allKinds[random.IntN(len(allKinds))]}
	if random.IntN(4) == 0 {
		m.Kind = requestKinds[random.IntN(len(requestKinds))]
	}
	if !d.met && random.IntN(2) == 0 {
		m.Kind = setupFrom(!d.server, 0).Kind
	}
	id := random.Uint64N(2 * (uint64(len(d.list)) + 1))
	switch {
	case m.Kind == word.Goaway:
	case m.Kind == word.ClientSetup:
		m = clientSetup(random.Uint64N(5), []uint64{1, random.Uint64N(3)}[random.IntN(2)])
	case m.Kind == word.ServerSetup:
		m = serverSetup(random.Uint64N(5), []uint64{1, random.Uint64N(3)}[random.IntN(2)])
	case m.Kind == word.MaxRequest:
		m.N = d.may + random.Uint64N(4) - min(1, d.may)
	case m.Kind == word.Unannounce:
		m = unannounce(nameOf(random.Uint64N(3)))
	case m.Kind == word.Subscribe:
		m = subscribe(0, random.Uint64N(8))
	case m.Kind == word.Announce:
		m = announce(0, nameOf(random.Uint64N(3)))
	case m.Kind == word.Fetch:
		m = fetch(0)
	default:
		m.ID = id
	}
	if random.IntN(50) == 0 {
		for _, field := range []*uint64{&m.Kind, &m.ID, &m.Alias, &m.N, &m.Code} {
			if random.IntN(4) == 0 {
				*field = odd(random)
			}
		}
	}
	return m
}

// drawHeard returns a message that is heard, most often one that closes nothing.
func drawHeard(random *rand.Rand, d *model) word.Msg {
	careless := random.IntN(60) == 0 || !d.met && random.IntN(6) == 0
	for range 60 {
		m := drawMsg(random, d)
		if slices.Contains(requestKinds, m.Kind) {
			m.ID = d.next(false)
		}
		if d.wrong(m) == 0 || careless {
			return m
		}
	}
	return drawMsg(random, d)
}

func checkModel(t *testing.T, x *talk.Session, d *model) {
	t.Helper()
	if x.Up() != (d.met && d.code == 0) || x.Code() != d.code {
		t.Fatalf("Up() = %t, Code() = %x; want the code %x", x.Up(), x.Code(), d.code)
	}
	for _, own := range []bool{false, true} {
		var want []talk.Ask
		for _, r := range d.filter(own, func(r *entry) bool { return r.state != talk.Over }) {
			want = append(want, talk.Ask{Msg: r.m, State: r.state})
		}
		checkAsks(t, x, own, want...)
	}
	found := 0
	for _, r := range d.list {
		if a, ok := x.Find(r.m.ID); ok && sameAsk(a, talk.Ask{Msg: r.m, State: r.state}) {
			found++
		}
	}
	if found != len(d.list) {
		t.Fatalf("%d of %d requests are found", found, len(d.list))
	}
	checkState(t, x, d.next(true), 0)
	checkState(t, x, d.next(false), 0)
}

func TestModel(t *testing.T) {
	random := rand.New(rand.NewPCG(17, 1))
	codes, errors, finished := map[uint64]int{}, map[api.Errno]int{}, 0
	for range 1000 {
		server := random.IntN(2) == 0
		lets := []uint64{random.Uint64N(5), 30, most - random.Uint64N(4)}[random.IntN(3)]
		x, d := talk.New(server, lets), newModel(server, lets)
		for range 100 {
			switch random.IntN(7) {
			case 0, 1, 2:
				m := drawHeard(random, d)
				code, want := x.Hear(m), d.hear(m)
				if code != want {
					t.Fatalf("Hear(%+v) = %x; want %x", m, code, want)
				}
				codes[code]++
			case 3, 4:
				m := drawMsg(random, d)
				sent, e := x.Say(m)
				want, wanted := d.say(m)
				if e != wanted || !same(sent, want) {
					t.Fatalf("Say(%+v) = %+v, %d; want %+v, %d", m, sent, e, want, wanted)
				}
				errors[e]++
			case 5:
				id, own := random.Uint64N(2*(uint64(len(d.list))+1)), random.IntN(2) == 0
				if len(d.list) > 0 && random.IntN(4) > 0 {
					r := d.list[random.IntN(len(d.list))]
					id, own = r.m.ID, r.own
				}
				e, want := x.Finish(id, own), d.finish(id, own)
				if e != want {
					t.Fatalf("Finish(%d, %t) = %d; want %d", id, own, e, want)
				}
				if e == api.OK {
					finished++
				}
			case 6:
				checkOut(t, x, d.out...)
				d.out = nil
			}
			checkModel(t, x, d)
		}
	}
	for _, code := range []uint64{0, api.SessionBroken, api.SessionVersion, api.SessionBadID, api.SessionTooMany, api.SessionAlias} {
		if codes[code] < 10 {
			t.Errorf("the code %x was returned %d times", code, codes[code])
		}
	}
	for _, e := range []api.Errno{api.OK, api.ErrForm, api.ErrNone, api.ErrExists, api.ErrState, api.ErrClosed, api.ErrCredit} {
		if errors[e] < 10 {
			t.Errorf("the error %d was returned %d times", e, errors[e])
		}
	}
	if finished < 10 {
		t.Errorf("%d Fetches were finished", finished)
	}
}
