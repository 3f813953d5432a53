package word_test

import (
	"bytes"
	"math"
	"math/rand/v2"
	"testing"

	"colonnade/api"
	"colonnade/word"
)

// draw returns a valid message of the kind.
func draw(random *rand.Rand, kind uint64) word.Msg {
	number := func() uint64 { return random.Uint64N(top>>random.IntN(61) + 1) }
	place := func() api.Place { return at(number(), number()) }
	name := func() []byte { return text(1 + random.IntN(api.MaxName)) }
	m := word.Msg{Kind: kind}
	switch kind {
	case word.Subscribe:
		m.ID, m.Alias, m.Name, m.Priority, m.Order = number(), number(), name(), byte(random.Uint32()), byte(1+random.IntN(2))
		m.Start = place()
		if group := number(); group > m.Start.Group {
			m.End.Group = group
		}
	case word.SubscribeOK:
		m.ID, m.Some = number(), random.IntN(2) == 0
		if m.Some {
			m.Start = place()
		}
	case word.SubscribeError, word.AnnounceError, word.SubscribeDone, word.FetchError:
		m.ID, m.Code, m.Reason = number(), number(), text(random.IntN(api.MaxReason+1))
	case word.Announce:
		m.ID, m.Name = number(), name()
	case word.AnnounceOK, word.Unsubscribe, word.FetchCancel, word.FetchOK:
		m.ID = number()
	case word.Unannounce:
		m.Name = name()
	case word.MaxRequest:
		m.N = number()
	case word.Fetch:
		m.ID, m.Name, m.Priority, m.Start, m.End = number(), name(), byte(random.Uint32()), place(), place()
		if word.Less(m.End, m.Start) {
			m.Start, m.End = m.End, m.Start
		}
	case word.ClientSetup:
		m.N = number()
		for range 1 + random.IntN(8) {
			m.Versions = append(m.Versions, number())
		}
	case word.ServerSetup:
		m.Version, m.N = number(), number()
	}
	return m
}

// Of messages one after the other, Read takes each as Bytes wrote it.
func TestReadOfBytes(t *testing.T) {
	random := rand.New(rand.NewPCG(15, 1))
	for range 3000 {
		var l []word.Msg
		var p []byte
		for range 1 + random.IntN(10) {
			m := draw(random, kinds[random.IntN(len(kinds))])
			q, e := word.Bytes(m)
			if e != api.OK {
				t.Fatalf("Bytes(%+v): %d", m, e)
			}
			l, p = append(l, m), append(p, q...)
		}
		for _, want := range l {
			m, rest, e := word.Read(p)
			if e != api.OK || !same(m, want) || !bytes.HasSuffix(p, rest) {
				t.Fatalf("Read(%x) = %+v, %x, %d; want %+v", p, m, rest, e, want)
			}
			p = rest
		}
		if len(p) != 0 {
			t.Fatalf("%x are left", p)
		}
	}
}

// change returns the bytes of a message of which some may be different, missing or further ones.
func change(random *rand.Rand, p []byte) []byte {
	for range random.IntN(4) {
		i := random.IntN(len(p))
		switch random.IntN(5) {
		case 0:
			p[i] = byte(random.Uint32()) >> random.IntN(8)
		case 1:
			p[i]++
		case 2:
			p[2]++
			p = append(p, byte(random.Uint32())>>random.IntN(8))
		case 3:
			p[2]--
			p = append(p[:i:i], p[min(i+1, len(p)):]...)
		case 4:
			p = p[:i]
		}
		if len(p) < 3 {
			break
		}
	}
	return p
}

// Whatever the bytes are, what Read takes as a message is a valid one: Bytes writes it, and Read takes it again.
func TestReadOfAnyBytes(t *testing.T) {
	random := rand.New(rand.NewPCG(15, 2))
	taken, refused := map[uint64]int{}, map[api.Errno]int{}
	for range 300000 {
		p, _ := word.Bytes(draw(random, kinds[random.IntN(len(kinds))]))
		p = change(random, p)
		m, rest, e := word.Read(p)
		if e != api.OK {
			if e != api.ErrShort && e != api.ErrForm || !zero(m) || len(rest) != 0 {
				t.Fatalf("Read(%x) = %+v, %x, %d", p, m, rest, e)
			}
			refused[e]++
			continue
		}
		taken[m.Kind]++
		if !bytes.HasSuffix(p, rest) || len(rest) >= len(p) {
			t.Fatalf("Read(%x) leaves %x", p, rest)
		}
		q, e := word.Bytes(m)
		if e != api.OK {
			t.Fatalf("Bytes(%+v) as read from %x: %d", m, p, e)
		}
		if n, left, e := word.Read(q); e != api.OK || len(left) != 0 || !same(m, n) {
			t.Fatalf("Read(%x) = %+v, %x, %d; want %+v", q, n, left, e, m)
		}
	}
	for _, kind := range kinds {
		if taken[kind] < 1000 {
			t.Errorf("only %d messages of kind %x were read", taken[kind], kind)
		}
	}
	if refused[api.ErrShort] < 1000 || refused[api.ErrForm] < 1000 {
		t.Errorf("only %v were refused", refused)
	}
}

// No call panics, whatever the fields are, and what Bytes writes, Read takes.
func TestBytesOfAnyFields(t *testing.T) {
	random := rand.New(rand.NewPCG(15, 3))
	ends := []uint64{0, 0, 0, 1, 2, 3, 63, 64, 1 << 60, top - 1, top, top + 1, math.MaxUint64 - 1, math.MaxUint64}
	end := func() uint64 { return ends[random.IntN(len(ends))] }
	for range 200000 {
		m := draw(random, kinds[random.IntN(len(kinds))])
		for _, field := range []*uint64{&m.Kind, &m.ID, &m.Alias, &m.Start.Group, &m.Start.Object, &m.End.Group, &m.End.Object, &m.Code, &m.N, &m.Version} {
			if random.IntN(12) == 0 {
				*field = end()
			}
		}
		if random.IntN(5) == 0 {
			m.Name, m.Reason = text([]int{0, 1, 32, 33}[random.IntN(4)]), text([]int{0, 1, 64, 65}[random.IntN(4)])
		}
		if random.IntN(5) == 0 {
			m.Some, m.Order = !m.Some, byte(random.Uint32())
		}
		if random.IntN(5) == 0 {
			m.Versions = append(m.Versions, end())
		}
		word.Has(m, at(end(), end()))
		p, e := word.Bytes(m)
		if e != api.OK {
			if e != api.ErrForm || len(p) != 0 {
				t.Fatalf("Bytes(%+v) = %x, %d", m, p, e)
			}
			continue
		}
		if n, rest, e := word.Read(p); e != api.OK || len(rest) != 0 || !same(m, n) {
			t.Fatalf("Read(%x) = %+v, %x, %d; want %+v", p, n, rest, e, m)
		}
	}
}
