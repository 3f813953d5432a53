package talk_test

import (
	"math/rand/v2"
	"slices"
	"testing"

	"colonnade/api"
	"colonnade/talk"
	"colonnade/word"
)

// wire carries the messages of two sides to each other, in order, but late.
type wire struct {
	sides   [2]*talk.Session
	flights [2][]word.Msg // from the side with that index
}

func newWire(lets uint64) *wire {
	return &wire{sides: [2]*talk.Session{talk.New(false, lets), talk.New(true, lets)}}
}

// collect puts what a side sends by itself on the wire, as it must be before anything that the side says after it.
func (w *wire) collect(i int) {
	w.flights[i] = append(w.flights[i], w.sides[i].Out()...)
}

func (w *wire) say(i int, m word.Msg) api.Errno {
	w.collect(i)
	sent, e := w.sides[i].Say(m)
	if e == api.OK {
		w.flights[i] = append(w.flights[i], sent)
	}
	w.collect(i)
	return e
}

// land lets the first message from a side arrive, if there is one. It arrives as its bytes.
func (w *wire) land(t *testing.T, i int) bool {
	t.Helper()
	w.collect(i)
	if len(w.flights[i]) == 0 {
		return false
	}
	p, e := word.Bytes(w.flights[i][0])
	if e != api.OK {
		t.Fatalf("%+v is invalid", w.flights[i][0])
	}
	m, _, _ := word.Read(p)
	w.flights[i] = w.flights[i][1:]
	hear(t, w.sides[1-i], m)
	w.collect(1 - i)
	return true
}

func (w *wire) rest(t *testing.T) {
	t.Helper()
	for w.land(t, 0) || w.land(t, 1) {
	}
}

// drawSaid returns a message that a side may want to say.
func drawSaid(random *rand.Rand, x *talk.Session, requests *uint64) word.Msg {
	var l []word.Msg
	for _, kind := range requestKinds {
		m := request(kind, *requests%8)
		m.ID = 0
		if kind == word.Announce {
			// Two sides agree on which of several is over only once all is heard.
			m.Name = []byte{byte(*requests), byte(*requests >> 8)}
		}
		l = append(l, m)
	}
	for _, a := range x.Asks(false) {
		for i, kind := range requestKinds {
			if a.Msg.Kind == kind {
				l = append(l, about(okKinds[i], a.Msg.ID), about(errorKinds[i], a.Msg.ID))
			}
		}
		l = append(l, about(word.SubscribeDone, a.Msg.ID))
	}
	for _, a := range x.Asks(true) {
		switch a.Msg.Kind {
		case word.Subscribe:
			l = append(l, about(word.Unsubscribe, a.Msg.ID))
		case word.Fetch:
			l = append(l, about(word.FetchCancel, a.Msg.ID))
		default:
			l = append(l, unannounce(string(a.Msg.Name)))
		}
	}
	*requests++
	return l[random.IntN(len(l))]
}

// What one side may say never closes the session of the other one, however late it arrives, and in the end both have the same requests.
func TestExchange(t *testing.T) {
	random := rand.New(rand.NewPCG(17, 3))
	for round := range 200 {
		w := newWire(1 + random.Uint64N(6))
		errors := map[api.Errno]int{}
		requests := uint64(0)
		for range 600 {
			i := random.IntN(2)
			if random.IntN(2) == 0 {
				w.land(t, i)
			} else {
				errors[w.say(i, drawSaid(random, w.sides[i], &requests))]++
			}
		}
		w.rest(t)
		if errors[api.OK] < 40 || errors[api.ErrClosed] > 0 || errors[api.ErrForm] > 0 {
			t.Fatalf("round %d: the errors are %v", round, errors)
		}
		a, b := w.sides[0], w.sides[1]
		checkAsks(t, a, true, b.Asks(false)...)
		checkAsks(t, a, false, b.Asks(true)...)
		for id := uint64(0); ; id++ {
			x, ok := a.Find(id)
			y, there := b.Find(id)
			if ok != there || !sameAsk(x, y) {
				t.Fatalf("round %d: request %d is %+v here, %+v there", round, id, x, y)
			}
			if _, more := a.Find(id + 1); !ok && !more {
				break
			}
		}
	}
}

// The requests that a side permits at a time can be made again and again.
func TestLongExchange(t *testing.T) {
	w := newWire(3)
	w.rest(t)
	for n := range uint64(2000) {
		for i, x := range w.sides {
			own := first(i == 1) + 6*n
			for k := range uint64(3) {
				if e := w.say(i, subscribe(0, k)); e != api.OK {
					t.Fatalf("request %d of round %d: %d", k, n, e)
				}
			}
			checkSay(t, x, fetch(0), api.ErrCredit)
			w.rest(t)
			w.say(1-i, about(word.SubscribeError, own+2))
			w.say(1-i, about(word.SubscribeOK, own))
			w.say(i, about(word.Unsubscribe, own+4))
			w.rest(t)
			w.say(1-i, about(word.SubscribeDone, own))
			w.rest(t)
			checkAsks(t, x, true)
		}
	}
}

// What is answered depends on nothing but the calls before.
func TestSameCallsSameAnswers(t *testing.T) {
	var all [2][]word.Msg
	for i := range all {
		x := upOf(t, true, 500, 500)
		for id := range uint64(200) {
			hear(t, x, announce(2*id, "t"))
			say(t, x, about(word.AnnounceOK, 2*id), subscribe(0, id))
		}
		for range 100 {
			hear(t, x, unannounce("t"))
		}
		for _, a := range slices.Concat(x.Asks(false), x.Asks(true)) {
			all[i] = append(all[i], a.Msg)
		}
	}
	if len(all[0]) != 300 || !slices.EqualFunc(all[0], all[1], same) {
		t.Fatal("the same calls have different answers")
	}
}
