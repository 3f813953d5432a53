package greet_test

import (
	"math"
	"math/rand/v2"
	"testing"

	"colonnade/api"
	"colonnade/greet"
)

func TestNilMachine(t *testing.T) {
	var m *greet.Machine
	for _, level := range []int{math.MinInt, -1, 0, 1, 2, 3, math.MaxInt} {
		checkHear(t, m, level, nil, 0)
		checkHear(t, m, level, []byte{1, 0xff, 0xff, 0xff}, 0)
		checkSecrets(t, m, level, nil)
	}
	checkOut(t, m, nil, nil)
	checkState(t, m, nil, nil, nil, false)
}

// odd returns bytes that are random, or look like a message.
func odd(random *rand.Rand) []byte {
	p := make([]byte, random.IntN(3)*random.IntN(60))
	for i := range p {
		p[i] = byte(random.Uint32())
	}
	kinds := []byte{hello, answer, terms, finished, byte(random.Uint32())}
	if random.IntN(2) == 0 {
		p = message(kinds[random.IntN(len(kinds))], p)
	}
	return p[random.IntN(len(p)+1)/8:]
}

// No call panics, whatever it is given; a code stays, and nothing but a greeting makes a side done.
func TestAnyArguments(t *testing.T) {
	random := rand.New(rand.NewPCG(3, 13))
	levels := []int{math.MinInt, -1, 0, 0, 0, 1, 1, 1, 2, 3, math.MaxInt}
	for range 3000 {
		s := states()[random.IntN(7)]
		m := s.machine()
		done := m.Done()
		var code uint64
		for range 8 {
			level := levels[random.IntN(len(levels))]
			if next, ok := s.next(); ok && random.IntN(2) == 0 {
				level = next.Level
			}
			c := m.Hear(level, odd(random))
			if code != 0 && c != code {
				t.Fatalf("the code was %d and is %d", code, c)
			}
			switch code = c; code {
			case 0, unexpected, badForm, badMAC, unknown:
			default:
				t.Fatalf("the code is %d", code)
			}
			m.Out()
			m.Peer()
			m.Secrets(levels[random.IntN(len(levels))])
		}
		if m.Done() != done {
			t.Fatal("done by random bytes")
		}
	}
}

// Whatever ReadParams accepts, Bytes of it mean the same.
func TestReadAnyParams(t *testing.T) {
	random := rand.New(rand.NewPCG(4, 13))
	var good int
	for range 50000 {
		b := make([]byte, random.IntN(14))
		ids := []byte{1, 4, 6, 8, 9, 0x20, 3, byte(random.Uint32())}
		for i := range b {
			b[i] = byte(random.Uint32()) >> random.IntN(8)
			if random.IntN(3) == 0 {
				b[i] = ids[random.IntN(len(ids))]
			}
		}
		p, e := greet.ReadParams(b)
		if e == api.ErrForm && p == (greet.Params{}) {
			continue
		}
		if q, again := greet.ReadParams(p.Bytes()); e != api.OK || again != api.OK || q != p {
			t.Fatalf("ReadParams(%x) = %+v, %d; and of its Bytes %+v, %d", b, p, e, q, again)
		}
		good++
	}
	if good < 1000 {
		t.Errorf("only %d were good", good)
	}
}
