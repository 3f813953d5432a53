package hub_test

import (
	"math"
	"testing"

	"colonnade/api"
	"colonnade/hub"
	"colonnade/talk"
	"colonnade/word"
)

func TestObject(t *testing.T) {
	h := feeding(t)
	hear(t, h, 3, subscribe(0, 7, "t"))
	h.Out()
	o, gram := object(4, 2, 9), object(4, 3, 0)
	gram.Gram = true
	pass(t, h, 1, 0, o, gram)
	checkGiven(t, h, given(2, 0, 5, o), given(3, 0, 7, o), given(2, 0, 5, gram), given(3, 0, 7, gram))
	checkUsed(t, h, 9+2*overhead)
}

// Each user is given what it requested, with its own ID, Alias and Rank.
func TestObjectForUsers(t *testing.T) {
	h := feeding(t)
	hear(t, h, 3,
		word.Msg{Kind: word.Subscribe, Alias: 1, Name: []byte("t"), Order: 1, Priority: 200, Start: at(2, 3)},
		word.Msg{Kind: word.Subscribe, ID: 2, Alias: 2, Name: []byte("t"), Order: 2, Priority: 3, End: at(2, 0)})
	hear(t, h, 4, word.Msg{Kind: word.Subscribe, Alias: 9, Name: []byte("t"), Order: 1, Start: at(1, 1), End: at(2, 0)})
	h.Out()
	for _, x := range []struct {
		place api.Place
		want  []int
	}{
		{at(0, 0), []int{0, 2}},
		{at(1, 0), []int{0, 2}},
		{at(1, 1), []int{0, 2, 3}},
		{at(2, 2), []int{0, 2, 3}},
		{at(2, 3), []int{0, 1, 2, 3}},
		{at(2, top), []int{0, 1, 2, 3}},
		{at(3, 0), []int{0, 1}},
		{at(top, 0), []int{0, 1}},
	} {
		o := api.Object{Place: x.place, Priority: 77, Data: []byte("data")}
		all := []hub.Give{
			{Peer: 2, ID: 0, Alias: 5, Object: o, Rank: [3]uint64{0, 77, x.place.Group}},
			{Peer: 3, ID: 0, Alias: 1, Object: o, Rank: [3]uint64{200, 77, x.place.Group}},
			{Peer: 3, ID: 2, Alias: 2, Object: o, Rank: [3]uint64{3, 77, top - x.place.Group}},
			{Peer: 4, ID: 0, Alias: 9, Object: o, Rank: [3]uint64{0, 77, x.place.Group}},
		}
		var want []hub.Give
		for _, i := range x.want {
			want = append(want, all[i])
		}
		pass(t, h, 1, 0, o)
		checkGiven(t, h, want...)
	}
}

// An object that nobody requested is stored all the same.
func TestObjectForNobody(t *testing.T) {
	h := serving(t, "t")
	hear(t, h, 2, word.Msg{Kind: word.Subscribe, Name: []byte("t"), Order: 1, Start: at(5, 0)})
	hear(t, h, 1, about(word.SubscribeOK, 1))
	h.Out()
	pass(t, h, 1, 0, object(4, 0, 3))
	checkSaid(t, h)
	checkUsed(t, h, 3+overhead)
}

// An object that comes again is not given again, nor does it replace the first one.
func TestObjectAgain(t *testing.T) {
	h := feeding(t)
	o := object(1, 1, 3)
	pass(t, h, 1, 0, o)
	h.Out()
	hear(t, h, 3, subscribe(0, 5, "t"))
	h.Out()
	pass(t, h, 1, 0, o, object(1, 1, 9))
	checkSaid(t, h)
	checkUsed(t, h, 3+overhead)
	hear(t, h, 3, fetch(2, "t", o.Place, o.Place))
	if _, g := h.Out(); len(g) != 2 || !sameObject(g[0].Object, o) {
		t.Fatalf("given is %+v", g)
	}
}

// An object for which the shelf has no room is given.
func TestObjectWithoutRoom(t *testing.T) {
	h := newHub(t, 40)
	for p := range uint64(2) {
		join(t, h, p, true)
		hear(t, h, p, setupFrom(false, may))
	}
	hear(t, h, 0, announce(0, "t"))
	hear(t, h, 1, subscribe(0, 3, "t"))
	hear(t, h, 0, about(word.SubscribeOK, 1))
	h.Out()
	big := object(1, 0, 25)
	pass(t, h, 0, 0, big)
	checkGiven(t, h, given(1, 0, 3, big))
	checkUsed(t, h, 0)
	pass(t, h, 0, 0, object(1, 1, 24), object(1, 2, 0), object(2, 0, 24))
	checkGiven(t, h, given(1, 0, 3, object(1, 1, 24)), given(1, 0, 3, object(1, 2, 0)), given(1, 0, 3, object(2, 0, 24)))
	checkUsed(t, h, 40)
}

func TestObjectErrors(t *testing.T) {
	h := serving(t, "t", "u")
	hear(t, h, 2, announce(0, "v"))
	hear(t, h, 3, subscribe(0, 5, "t"), subscribe(2, 6, "v"))
	h.Out()
	o := object(0, 0, 1)
	check := func(peer, alias uint64) {
		t.Helper()
		checkObject(t, h, peer, alias, o, api.ErrNone)
		checkSaid(t, h)
		checkUsed(t, h, 0)
	}
	check(1, 0) // asked
	hear(t, h, 1, about(word.SubscribeOK, 3))
	hear(t, h, 2, about(word.SubscribeOK, 5))
	h.Out()
	check(1, 1)              // no feed
	check(1, 2)              // another source's
	check(1, 5)              // a user's alias
	check(1, math.MaxUint64) // no track
	check(2, 0)
	check(3, 0)
	check(9, 0)
	hear(t, h, 3, about(word.Unsubscribe, 0))
	h.Out()
	check(1, 0)
	pass(t, h, 2, 2, o)
	checkGiven(t, h, given(3, 2, 6, o))
	checkUsed(t, h, 1+overhead)
}

// Tracks are told by their names, also if these differ only in zero bytes at their end.
func TestObjectsOfLikeNames(t *testing.T) {
	h := serving(t, "t", "t\x00", "t\x00\x00")
	hear(t, h, 2, subscribe(0, 5, "t"), subscribe(2, 6, "t\x00"), subscribe(4, 7, "t\x00\x00"))
	hear(t, h, 1, about(word.SubscribeOK, 1), about(word.SubscribeOK, 3), about(word.SubscribeOK, 5))
	h.Out()
	for i := range uint64(3) {
		o := object(0, 0, 10+int(i))
		pass(t, h, 1, i, o)
		checkGiven(t, h, given(2, 2*i, 5+i, o))
	}
	hear(t, h, 3, fetch(0, "t\x00", at(0, 0), at(0, 0)), subscribe(2, 5, "t\x00\x00"))
	checkOut(t, h, []hub.Said{to(3, about(word.FetchOK, 0)), to(3, maxRequest(lets+1)), to(3, okAt(2, at(0, 0)))},
		append(answer(3, 0, object(0, 0, 11)), end(3, 0)))
}

// An object at a place beyond those that messages can tell does no harm: who subscribes then can't be answered and waits.
func TestObjectBeyond(t *testing.T) {
	h := feeding(t)
	o := api.Object{Place: at(math.MaxUint64, 1<<62), Data: []byte("x")}
	pass(t, h, 1, 0, o)
	checkGiven(t, h, given(2, 0, 5, o))
	hear(t, h, 3, subscribe(0, 5, "t"))
	checkSaid(t, h)
	checkState(t, h, 3, 0, talk.Waiting)
	checkFeed(t, h, "t", granted, 2)
	pass(t, h, 1, 0, object(0, 0, 1))
	checkGiven(t, h, given(2, 0, 5, object(0, 0, 1)))
	hear(t, h, 1, over(word.SubscribeDone, 1, 9))
	checkSaid(t, h, to(2, over(word.SubscribeDone, 0, 9)), to(2, maxRequest(lets+1)), to(3, over(word.SubscribeError, 0, 9)), to(3, maxRequest(lets+1)))
}
