package talk_test

import (
	"math"
	"math/rand/v2"
	"testing"

	"colonnade/api"
	"colonnade/talk"
	"colonnade/word"
)

// odd returns a number that is small, or at the end of some range.
func odd(random *rand.Rand) uint64 {
	ends := []uint64{1 << 31, 1 << 32, most, 2 * most, top, 1 << 63, math.MaxUint64}
	if random.IntN(3) > 0 {
		return random.Uint64N(12)
	}
	return ends[random.IntN(len(ends))] + random.Uint64N(6) - 3
}

// oddMsg returns a message of which any field may be set.
func oddMsg(random *rand.Rand) word.Msg {
	m := word.Msg{Kind: allKinds[random.IntN(len(allKinds))], Order: byte(random.IntN(3))}
	for _, field := range []*uint64{&m.Kind, &m.ID, &m.Alias, &m.Start.Group, &m.Start.Object, &m.End.Group, &m.End.Object, &m.Code, &m.N, &m.Version} {
		if random.IntN(6) == 0 {
			*field = odd(random)
		}
	}
	if random.IntN(2) == 0 {
		m.Name = make([]byte, random.IntN(3)*random.IntN(40))
	}
	if random.IntN(6) == 0 {
		m.Reason = make([]byte, random.IntN(100))
	}
	if random.IntN(6) == 0 {
		m.Versions = make([]uint64, random.IntN(12))
	}
	m.Some = random.IntN(6) == 0
	return m
}

// No call panics, whatever it is given, and errors come with nothing else.
func TestAnyArguments(t *testing.T) {
	random := rand.New(rand.NewPCG(17, 2))
	for range 2000 {
		server := random.IntN(2) == 0
		x := talk.New(server, odd(random))
		if random.IntN(4) > 0 {
			x.Hear(setupFrom(!server, odd(random)%(top+1)))
		}
		for range 40 {
			m := oddMsg(random)
			if sent, e := x.Say(m); e != api.OK && !same(sent, word.Msg{}) {
				t.Fatalf("Say(%+v) = %+v, %d", m, sent, e)
			}
			x.Finish(odd(random), random.IntN(2) == 0)
			if a, ok := x.Find(odd(random)); !ok && !sameAsk(a, talk.Ask{}) {
				t.Fatalf("Find returns %+v, but there is none", a)
			}
			if random.IntN(9) == 0 {
				x.Hear(oddMsg(random))
				x.Out()
				x.Asks(true)
				x.Asks(false)
			}
			if x.Up() && x.Code() != 0 {
				t.Fatalf("Up with the code %x", x.Code())
			}
		}
	}
}
