package pipe_test

import (
	"math"
	"math/rand/v2"
	"testing"

	"colonnade/api"
	"colonnade/pipe"
)

// odd returns a number that is small, or at the end of some range.
func odd(random *rand.Rand) uint64 {
	ends := []uint64{waiting, 1 << 31, 1 << 32, most, top, 1 << 63, math.MaxUint64}
	if random.IntN(3) > 0 {
		return random.Uint64N(30)
	}
	return ends[random.IntN(len(ends))] + random.Uint64N(6) - 3
}

func oddFrame(random *rand.Rand) api.Frame {
	kinds := []uint64{api.Stream, api.ResetStream, api.StopSending, api.MaxStreamData, api.MaxData, api.StreamsBidi, api.StreamsUni, odd(random)}
	f := api.Frame{Kind: kinds[random.IntN(len(kinds))]}
	for _, field := range []*uint64{&f.ID, &f.Off, &f.N, &f.Code} {
		if random.IntN(2) == 0 {
			*field = odd(random)
		}
	}
	f.Fin = random.IntN(3) == 0
	f.Data = bytesOf(random.IntN(3) * random.IntN(9))
	if random.IntN(20) == 0 {
		f.Token, f.Ranges = bytesOf(16), []api.Range{{From: odd(random), To: odd(random)}}
	}
	return f
}

// No call panics, whatever it is given, and what is sent has room.
func TestAnyArguments(t *testing.T) {
	random := rand.New(rand.NewPCG(1, 12))
	for range 300 {
		x := pipe.New(random.IntN(2) == 0, pipe.Limits{Window: odd(random), Credit: odd(random), Bidi: odd(random), Uni: odd(random)})
		var l []api.Frame
		for range 200 {
			f := oddFrame(random)
			x.Hear(f)
			x.Lost(f)
			x.Acked(f)
			x.Write(odd(random), bytesOf(random.IntN(9)), random.IntN(4) == 0)
			x.Read(odd(random), int(odd(random)))
			x.Rank(odd(random), pipe.Rank{odd(random)})
			if random.IntN(9) == 0 {
				x.Open(random.IntN(2) == 0)
				x.Reset(odd(random), odd(random))
				x.Stop(odd(random), odd(random))
				x.Peer(pipe.Limits{Window: odd(random), Credit: odd(random), Bidi: odd(random), Uni: odd(random)})
			}
			l = append(l, checkRoom(t, x, int(odd(random)))...)
			if random.IntN(4) == 0 {
				lost(x, l...)
				acked(x, l...)
			}
			x.Held()
			x.Streams()
			x.Idle()
		}
	}
}
