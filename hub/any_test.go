package hub_test

import (
	"math"
	"math/rand/v2"
	"testing"

	"colonnade/api"
	"colonnade/hub"
	"colonnade/word"
)

// odd returns a number that is small, or at the end of some range.
func odd(random *rand.Rand) uint64 {
	ends := []uint64{1 << 31, 1 << 32, 1 << 60, top, 1 << 63, math.MaxUint64}
	if random.IntN(8) > 0 {
		return random.Uint64N(6)
	}
	return ends[random.IntN(len(ends))] + random.Uint64N(6) - 3
}

func oddBytes(random *rand.Rand) []byte {
	if random.IntN(9) == 0 {
		return make([]byte, random.IntN(100))
	}
	return make([]byte, 1+random.IntN(3))
}

func oddPlace(random *rand.Rand) api.Place {
	return at(odd(random), odd(random))
}

func oddObject(random *rand.Rand) api.Object {
	o := api.Object{Place: oddPlace(random), Priority: byte(random.Uint32()), Gram: random.IntN(2) == 0}
	if random.IntN(4) > 0 {
		o.Data = make([]byte, random.IntN(1+random.IntN(3000)))
	}
	return o
}

// oddMsg returns a message that mostly is valid, and fits the next ID.
func oddMsg(random *rand.Rand, next uint64) word.Msg {
	if random.IntN(40) == 0 {
		next = odd(random)
	}
	kinds := []uint64{0x03, 0x04, 0x05, 0x06, 0x07, 0x08, 0x09, 0x0a, 0x0b, 0x10, 0x15, 0x16, 0x17, 0x18, 0x19, 0x20, 0x21}
	m := word.Msg{Kind: kinds[random.IntN(len(kinds))], ID: odd(random)}
	if random.IntN(2) == 0 {
		m.Kind = []uint64{word.Announce, word.Subscribe, word.Fetch}[random.IntN(3)]
	}
	switch m.Kind {
	case word.Subscribe:
		m.ID, m.Alias, m.Name, m.Order, m.Start = next, odd(random), oddBytes(random), 1+byte(random.IntN(2)), oddPlace(random)
	case word.Announce:
		m.ID, m.Name = next, oddBytes(random)
	case word.Fetch:
		m.ID, m.Name, m.Start, m.End = next, oddBytes(random), oddPlace(random), oddPlace(random)
	case word.Unannounce:
		m.ID, m.Name = 0, oddBytes(random)
	case word.MaxRequest:
		m.ID, m.N = 0, odd(random)
	case word.ClientSetup, word.ServerSetup:
		m = setupFrom(m.Kind == word.ServerSetup, odd(random))
	}
	if random.IntN(30) == 0 {
		m.Name, m.Reason, m.Some, m.Code = oddBytes(random), oddBytes(random), true, odd(random)
	}
	return m
}

// No call panics, whatever it is given.
func TestAnyArguments(t *testing.T) {
	random := rand.New(rand.NewPCG(20, 2))
	heard := map[uint64]int{}
	for range 3000 {
		h, e := hub.New(1 + random.IntN(1+random.IntN(4000)))
		if e != api.OK {
			t.Fatal(e)
		}
		next := map[uint64]uint64{}
		for p := range uint64(3) {
			if random.IntN(9) > 0 {
				h.Join(p, true, 40)
				heard[h.Hear(p, setupFrom(false, odd(random)))]++
			}
		}
		for range 60 {
			p := odd(random)
			switch random.IntN(12) {
			case 0:
				server := random.IntN(9) > 0
				if h.Join(p, server, 1+odd(random)) == api.OK {
					next[p] = 0
					if !server {
						next[p] = 1
					}
					heard[h.Hear(p, setupFrom(!server, odd(random)))]++
				}
			case 1:
				h.Object(p, odd(random), oddObject(random))
			case 2:
				h.Fetched(p, odd(random), oddObject(random), random.IntN(2) == 0)
			case 3:
				h.Feed(oddBytes(random))
				h.Users(oddBytes(random))
				h.Out()
			case 4:
				if random.IntN(9) == 0 {
					h.Leave(p)
				}
			default:
				m := oddMsg(random, next[p])
				code := h.Hear(p, m)
				if heard[code]++; code == 0 && (m.Kind == word.Subscribe || m.Kind == word.Announce || m.Kind == word.Fetch) {
					next[p] += 2
				}
			}
			if h.Used() > 4000 || len(h.Tracks()) > api.MaxTracks || len(h.Peers()) > api.MaxPeers {
				t.Fatal("out of bounds")
			}
		}
	}
	for _, code := range []uint64{0, api.SessionBroken, api.SessionBadID, api.SessionTooMany} {
		if heard[code] < 20 {
			t.Errorf("the code %x was returned %d times", code, heard[code])
		}
	}
}
