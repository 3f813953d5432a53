package line_test

import (
	"bytes"
	"math"
	"math/rand/v2"
	"testing"

	"colonnade/api"
	"colonnade/frame"
	"colonnade/greet"
	"colonnade/line"
	"colonnade/pipe"
)

func TestNilLine(t *testing.T) {
	var l *line.Line
	for _, n := range []uint64{0, 1, api.MaxNum, api.MaxNum + 1, math.MaxUint64} {
		l.Receive(nil, n)
		l.Receive(make([]byte, 100), n)
		if p := l.Send(n); len(p) > 0 {
			t.Fatalf("Send = %x", p)
		}
		checkNotDue(t, l)
		for _, b := range []bool{true, false} {
			if id, e := l.Open(b); id != 0 || e != api.ErrNone {
				t.Fatalf("Open = %d, %d", id, e)
			}
			checkErrno(t, "Write", l.Write(n, make([]byte, 20000), b), api.ErrNone)
			checkErrno(t, "Close", l.Close(n, b), api.ErrNone)
		}
		for _, most := range []int{math.MinInt, -1, 0, 1, math.MaxInt} {
			if p, done, code, e := l.Read(n, most); len(p) > 0 || done || code != 0 || e != api.ErrNone {
				t.Fatalf("Read = %x, %v, %d, %d", p, done, code, e)
			}
		}
		checkErrno(t, "Reset", l.Reset(n, n), api.ErrNone)
		checkErrno(t, "Stop", l.Stop(n, n), api.ErrNone)
		checkErrno(t, "Rank", l.Rank(n, pipe.Rank{n, n, n}), api.ErrNone)
		for _, p := range [][]byte{nil, {1}, make([]byte, 5000)} {
			checkErrno(t, "Gram", l.Gram(p), api.ErrNone)
			checkErrno(t, "Raw", l.Raw(p), api.ErrNone)
		}
		if len(l.Came()) > 0 || len(l.Grams()) > 0 || l.Idle() || l.Opened() != 0 {
			t.Fatal("a nil line has something")
		}
		checkOpen(t, l, line.Gone)
		checkTold(t, l, 0, 0, 0)
	}
}

// number returns one that is likely to be special.
func number(random *rand.Rand) uint64 {
	l := []uint64{0, 1, 2, 3, 4, 7, 8, 100, 1000, api.MaxTick, api.MaxNum, api.MaxNum + 1, 1 << 63, math.MaxUint64}
	if random.IntN(3) == 0 {
		return random.Uint64() >> random.IntN(64)
	}
	return l[random.IntN(len(l))]
}

func size(random *rand.Rand) int {
	return random.IntN(2000) >> random.IntN(12)
}

// oddFrame returns a frame of any kind, mostly a valid one.
func oddFrame(random *rand.Rand) api.Frame {
	kinds := []uint64{api.Padding, api.Ping, api.Ack, api.ResetStream, api.StopSending, api.Crypto, api.NewToken, api.Stream, api.MaxData, api.MaxStreamData, api.StreamsBidi, api.StreamsUni, api.DataBlocked, api.StreamBlocked, api.BidiBlocked, api.UniBlocked, api.RetireID, api.PathChallenge, api.PathResponse, api.HandshakeDone, api.Datagram, api.Close, api.CloseApp}
	k := kinds[min(random.IntN(len(kinds)+5), len(kinds)-1)*random.IntN(8)/7]
	f := api.Frame{Kind: k}
	switch k {
	case api.Ack:
		f.N, f.Ranges = number(random), []api.Range{{To: random.Uint64N(3)}}
	case api.ResetStream, api.StopSending, api.MaxStreamData, api.StreamBlocked, api.RetireID:
		f.ID = random.Uint64N(20)
	case api.Crypto:
		f.Off, f.Data = random.Uint64N(5000), pattern(size(random)/2)
	case api.Stream:
		f.ID, f.Off, f.Data, f.Fin = random.Uint64N(20), random.Uint64N(100), pattern(size(random)/2), random.IntN(2) == 0
	case api.PathChallenge, api.PathResponse:
		f.Data = pattern(8)
	case api.Datagram, api.NewToken:
		f.Data = pattern(1 + random.IntN(20))
	case api.Padding:
		f.N = 1 + random.Uint64N(20)
	case api.MaxData, api.StreamsBidi, api.StreamsUni:
		f.N = random.Uint64N(1000)
	}
	return f
}

// odd returns a datagram of a side made by hand: its packets carry any frames or bytes.
func (h *hand) odd(random *rand.Rand) []byte {
	var p []byte
	for level := range 3 {
		if random.IntN(2) == 0 {
			continue
		}
		var plain []byte
		for range random.IntN(6) {
			q, _ := frame.Bytes(oddFrame(random))
			plain = append(plain, q...)
		}
		if random.IntN(20) == 0 {
			plain = append(plain, byte(random.Uint32()))
		}
		p = append(p, h.plain(level, h.next[level], plain)...)
	}
	return p
}

// checkKept checks what must hold for any line: its state never goes back, and the code stays.
func checkKept(t *testing.T, l *line.Line, state int, code uint64, app bool) (int, uint64, bool) {
	t.Helper()
	s := l.State()
	c, x, own := l.Code()
	switch {
	case s < state || state >= line.Closed && s != state:
		t.Fatalf("the state was %d and is %d", state, s)
	case state >= line.Closed && (c != code || x != app):
		t.Fatalf("the code was %x, %v and is %x, %v", code, app, c, x)
	case own != (s == line.Closed), s < line.Closed && (c != 0 || x):
		t.Fatalf("Code = %x, %v, %v in state %d", c, x, own, s)
	}
	flight, window, unread := l.Told()
	if flight < 0 || window < 2400 || unread < 0 {
		t.Fatalf("Told = %d, %d, %d", flight, window, unread)
	}
	return s, c, x
}

// call makes any call with any arguments.
func call(t *testing.T, random *rand.Rand, l *line.Line, h *hand) {
	t.Helper()
	id, now := number(random), number(random)>>random.IntN(64)
	switch random.IntN(20) {
	case 0:
		l.Receive(pattern(size(random)), now)
	case 1, 2, 3:
		l.Receive(h.odd(random), random.Uint64N(100))
	case 4, 5, 6:
		bounded(t, l, l.Send(random.Uint64N(200)))
	case 7:
		bounded(t, l, l.Send(now))
	case 8, 9:
		l.Open(random.IntN(2) == 0)
	case 10, 11:
		l.Write(id%8, make([]byte, size(random)), random.IntN(9) == 0)
	case 12:
		l.Write(id, make([]byte, 30*size(random)), random.IntN(2) == 0)
	case 13:
		l.Read(id, int(now))
		l.Read(id%8, size(random))
	case 14:
		l.Reset(id, number(random))
		l.Stop(id, number(random))
	case 15:
		l.Rank(id, pipe.Rank{number(random), number(random), number(random)})
	case 16:
		l.Gram(make([]byte, size(random)))
	case 17:
		l.Raw(make([]byte, size(random)))
	case 18:
		l.Came()
		l.Grams()
		l.Due()
	default:
		if random.IntN(20) == 0 {
			l.Close(id, random.IntN(2) == 0)
		}
	}
}

// No call panics, whatever it is given, in any state.
func TestAnyArguments(t *testing.T) {
	random := rand.New(rand.NewPCG(5, 14))
	for i := range 1500 {
		var l *line.Line
		var h *hand
		switch i % 4 {
		case 0:
			l, h = greeted(t, serverConfig(), trip)
		case 1:
			l, h = greetedClient(t, clientConfig(), trip)
		case 2:
			l, h = line.New(serverConfig(), 0), newHand(clientConfig())
		case 3:
			l, h = line.New(clientConfig(), 0), newHand(serverConfig())
		}
		state, code, app := line.Greeting, uint64(0), false
		for range 60 {
			call(t, random, l, h)
			state, code, app = checkKept(t, l, state, code, app)
		}
	}
}

// Any Config makes a line, and two with the same Identity and Secret understand each other.
func TestAnyConfig(t *testing.T) {
	random := rand.New(rand.NewPCG(6, 14))
	for range 300 {
		params := func() greet.Params {
			return greet.Params{Credit: number(random), Window: number(random), Bidi: number(random), Uni: number(random), Gram: number(random)}
		}
		var c line.Config
		for i := range c.Name {
			c.Name[i] = byte(random.Uint32())
		}
		for i := range c.Random {
			c.Random[i] = byte(random.Uint32())
		}
		c.Identity, c.Secret, c.Params = make([]byte, size(random)), make([]byte, size(random)), params()
		d := c
		d.Server, d.Params = true, params()
		// Even the names may be the same.
		if random.IntN(2) == 0 {
			d.Name[0]++
		}
		now := number(random)
		a, b := joined(t, c, d, now)
		if id, e := a.Open(true); e == api.OK {
			a.Write(id, []byte("abc"), true)
			rest(t, a, b, now)
			if d.Params.Credit > 2 && d.Params.Window > 2 {
				if p, done, _, _ := b.Read(id, 9); !bytes.Equal(p, []byte("abc")) || !done {
					t.Fatalf("Read = %q, %v", p, done)
				}
			}
		}
		if b.Gram([]byte("g")) == api.OK {
			rest(t, a, b, now)
			if len(a.Grams()) != 1 {
				t.Fatal("no datagram frame arrives")
			}
		}
		checkOpen(t, a, line.Up)
		checkOpen(t, b, line.Up)
	}
}
