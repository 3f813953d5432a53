package item_test

import (
	"bytes"
	"math/rand/v2"
	"testing"

	"colonnade/api"
	"colonnade/item"
	"colonnade/word"
)

// draw returns the beginning of a stream, and objects for it.
func draw(random *rand.Rand) (item.Head, []api.Object) {
	number := func() uint64 { return random.Uint64N(top>>random.IntN(61) + 1) }
	h := item.Head{Fetch: random.IntN(2) == 0, ID: number()}
	if !h.Fetch {
		h.Group, h.Priority = number(), byte(random.Uint32())
	}
	var l []api.Object
	place := api.Place{Group: h.Group, Object: number()}
	for range random.IntN(8) {
		o := object(place.Group, place.Object, h.Priority, string(text(random.IntN(4)*random.IntN(60))))
		if h.Fetch {
			o.Priority = byte(random.Uint32())
		}
		l = append(l, o)
		if h.Fetch && random.IntN(2) == 0 && place.Group < top {
			place = api.Place{Group: place.Group + 1 + random.Uint64N(top-place.Group), Object: number()}
		} else if place.Object < top {
			place.Object += 1 + random.Uint64N((top-place.Object)>>random.IntN(61)+1)
			place.Object = min(place.Object, top)
		} else {
			break
		}
	}
	return h, l
}

// encode returns the stream of the objects.
func encode(t *testing.T, h item.Head, l []api.Object) []byte {
	p, e := item.Begin(h)
	if e != api.OK {
		t.Fatalf("Begin(%+v): %d", h, e)
	}
	for _, o := range l {
		q, e := item.Next(h, o)
		if e != api.OK {
			t.Fatalf("Next(%+v, %+v): %d", h, o, e)
		}
		p = append(p, q...)
	}
	return p
}

// What Begin and Next write, a reader takes, however the stream is cut.
func TestPutOfAnyParts(t *testing.T) {
	random := rand.New(rand.NewPCG(16, 1))
	for range 3000 {
		h, want := draw(random)
		p := encode(t, h, want)
		r := item.NewReader()
		var l []api.Object
		for len(p) > 0 {
			n := min(1+random.IntN(1<<random.IntN(8)), len(p))
			got, e := r.Put(p[:n], n == len(p) && random.IntN(2) == 0)
			if e != api.OK {
				t.Fatalf("Put: %d", e)
			}
			l, p = append(l, got...), p[n:]
		}
		if !equal(l, want) {
			t.Fatalf("a reader takes %+v; want %+v", l, want)
		}
		checkHead(t, r, &h)
		checkHeld(t, r, 0)
	}
}

// Whatever the bytes are, and however they are cut, a reader takes the same; what it takes are objects in order, which Next writes.
func TestPutOfAnyBytes(t *testing.T) {
	random := rand.New(rand.NewPCG(16, 2))
	seen := map[api.Errno]int{}
	for range 20000 {
		h, l := draw(random)
		p := encode(t, h, l)
		for range random.IntN(4) {
			p[random.IntN(len(p))] = byte(random.Uint32()) >> random.IntN(8)
		}
		p = p[:len(p)-random.IntN(2)*random.IntN(len(p))]

		whole := item.NewReader()
		got, e := whole.Put(p, true)
		seen[e]++
		if e != api.OK && e != api.ErrForm {
			t.Fatalf("Put(%x): %d", p, e)
		}
		h, _ = whole.Head()
		for i, o := range got {
			if i > 0 && !word.Less(got[i-1].Place, o.Place) {
				t.Fatalf("Put(%x) = %+v", p, got)
			}
			if _, e := item.Next(h, o); e != api.OK {
				t.Fatalf("Next(%+v, %+v): %d", h, o, e)
			}
		}

		parts := item.NewReader()
		var again []api.Object
		e2 := api.OK
		for i := 0; i <= len(p) && e2 == api.OK; i++ {
			var more []api.Object
			more, e2 = parts.Put(p[i:min(i+1, len(p))], i == len(p))
			again = append(again, more...)
		}
		h2, _ := parts.Head()
		if e != e2 || h != h2 || !equal(got, again) {
			t.Fatalf("Put(%x) = %+v, %d, but byte by byte %+v, %d", p, got, e, again, e2)
		}
	}
	if seen[api.OK] < 1000 || seen[api.ErrForm] < 1000 {
		t.Errorf("only %v streams were tested", seen)
	}
}

// What Gram writes, ReadGram reads, and what ReadGram reads of any bytes, Gram writes.
func TestReadGramOfAnyBytes(t *testing.T) {
	random := rand.New(rand.NewPCG(16, 3))
	number := func() uint64 { return random.Uint64N(top>>random.IntN(61) + 1) }
	seen := map[api.Errno]int{}
	for range 100000 {
		alias, o := number(), gram(number(), number(), byte(random.Uint32()), string(text(random.IntN(60))))
		p, e := item.Gram(alias, o)
		if e != api.OK {
			t.Fatalf("Gram(%d, %+v): %d", alias, o, e)
		}
		if a, got, e := item.ReadGram(p); e != api.OK || a != alias || !same(got, o) {
			t.Fatalf("ReadGram(%x) = %d, %+v, %d; want %d, %+v", p, a, got, e, alias, o)
		}
		for range random.IntN(3) {
			p[random.IntN(min(len(p), 20))] = byte(random.Uint32()) >> random.IntN(8)
		}
		p = p[:len(p)-random.IntN(2)*random.IntN(len(p))]
		a, got, e := item.ReadGram(p)
		seen[e]++
		if e != api.OK {
			if e != api.ErrForm || a != 0 || !same(got, api.Object{}) {
				t.Fatalf("ReadGram(%x) = %d, %+v, %d", p, a, got, e)
			}
			continue
		}
		q, e := item.Gram(a, got)
		if e != api.OK || !bytes.HasSuffix(p, got.Data) {
			t.Fatalf("Gram(%d, %+v) as read from %x: %x, %d", a, got, p, q, e)
		}
	}
	if seen[api.OK] < 1000 || seen[api.ErrForm] < 1000 {
		t.Errorf("only %v datagrams were tested", seen)
	}
}
