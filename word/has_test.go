package word_test

import (
	"math"
	"testing"

	"colonnade/api"
	"colonnade/word"
)

func TestLess(t *testing.T) {
	// In increasing order.
	l := []api.Place{
		at(0, 0), at(0, 1), at(0, top), at(0, math.MaxUint64), at(1, 0), at(1, 1), at(1, 2), at(2, 0), at(255, 7), at(256, 3),
		at(1<<32, 1), at(1<<32, 1<<32), at(top, 0), at(top, top), at(1<<63, 0), at(math.MaxUint64, 0), at(math.MaxUint64, math.MaxUint64),
	}
	for i, a := range l {
		for j, b := range l {
			if word.Less(a, b) != (i < j) {
				t.Errorf("Less(%d, %d) = %t", a, b, i >= j)
			}
		}
	}
}

func TestHasOfSubscribe(t *testing.T) {
	all := word.Msg{Kind: word.Subscribe, Name: []byte("t"), Order: 1}
	late := word.Msg{Kind: word.Subscribe, Name: []byte("t"), Order: 2, Start: at(3, 5)}
	some := word.Msg{Kind: word.Subscribe, Name: []byte("t"), Order: 1, Start: at(3, 5), End: at(7, 0)}
	for _, x := range []struct {
		m    word.Msg
		at   api.Place
		want bool
	}{
		{all, at(0, 0), true},
		{all, at(5, 9), true},
		{all, at(top, top), true},
		{late, at(0, 9), false},
		{late, at(2, top), false},
		{late, at(3, 4), false},
		{late, at(3, 5), true},
		{late, at(3, 6), true},
		{late, at(4, 0), true},
		{late, at(top, top), true},
		{some, at(0, 0), false},
		{some, at(3, 4), false},
		{some, at(3, 5), true},
		{some, at(4, 0), true},
		{some, at(7, 0), true},
		{some, at(7, top), true},
		{some, at(8, 0), false},
		{some, at(top, 0), false},
	} {
		if word.Has(x.m, x.at) != x.want {
			t.Errorf("Has(%+v, %d) = %t", x.m, x.at, !x.want)
		}
	}
}

func TestHasOfFetch(t *testing.T) {
	some := word.Msg{Kind: word.Fetch, Name: []byte("t"), Start: at(3, 5), End: at(7, 2)}
	one := word.Msg{Kind: word.Fetch, Name: []byte("t"), Start: at(3, 5), End: at(3, 5)}
	first := word.Msg{Kind: word.Fetch, Name: []byte("t")}
	for _, x := range []struct {
		m    word.Msg
		at   api.Place
		want bool
	}{
		{some, at(0, 0), false},
		{some, at(2, 9), false},
		{some, at(3, 4), false},
		{some, at(3, 5), true},
		{some, at(3, top), true},
		{some, at(5, 0), true},
		{some, at(7, 0), true},
		{some, at(7, 2), true},
		{some, at(7, 3), false},
		{some, at(8, 0), false},
		{one, at(3, 4), false},
		{one, at(3, 5), true},
		{one, at(3, 6), false},
		// An end at 0, 0 is one.
		{first, at(0, 0), true},
		{first, at(0, 1), false},
		{first, at(1, 0), false},
	} {
		if word.Has(x.m, x.at) != x.want {
			t.Errorf("Has(%+v, %d) = %t", x.m, x.at, !x.want)
		}
	}
}

// No other kind requests a place, even if it names one.
func TestHasOfOtherKinds(t *testing.T) {
	for kind := range uint64(300) {
		if kind == word.Subscribe || kind == word.Fetch {
			continue
		}
		for _, m := range []word.Msg{{Kind: kind}, {Kind: kind, Some: true, Start: at(1, 2), End: at(9, 0)}} {
			for _, place := range []api.Place{at(0, 0), at(1, 2), at(2, 0), at(9, 0)} {
				if word.Has(m, place) {
					t.Errorf("Has(%+v, %d) = true", m, place)
				}
			}
		}
	}
}
