package pipe_test

import (
	"reflect"
	"slices"
	"strings"
	"testing"

	"colonnade/api"
	"colonnade/frame"
	"colonnade/pipe"
)

const (
	top     = api.MaxNum
	waiting = 16384 // bytes of a stream
	most    = 1 << 60
)

// wide permits more than the tests need.
var wide = pipe.Limits{Window: 1 << 20, Credit: 1 << 24, Bidi: 100, Uni: 100}

// sideOf returns one side. Both sides permit l.
func sideOf(server bool, l pipe.Limits) *pipe.Table {
	x := pipe.New(server, l)
	x.Peer(l)
	return x
}

func bytesOf(n int) []byte {
	p := make([]byte, n)
	for i := range p {
		p[i] = byte(i%251 + i/251)
	}
	return p
}

func data(id, off uint64, p string) api.Frame {
	return api.Frame{Kind: api.Stream, ID: id, Off: off, Data: []byte(p)}
}

// last is the last bytes of a stream.
func last(id, off uint64, p string) api.Frame {
	f := data(id, off, p)
	f.Fin = true
	return f
}

func resetOf(id, code, size uint64) api.Frame {
	return api.Frame{Kind: api.ResetStream, ID: id, Code: code, Off: size}
}

func stopOf(id, code uint64) api.Frame {
	return api.Frame{Kind: api.StopSending, ID: id, Code: code}
}

func limitOf(kind, n uint64) api.Frame {
	return api.Frame{Kind: kind, N: n}
}

func windowOf(id, n uint64) api.Frame {
	return api.Frame{Kind: api.MaxStreamData, ID: id, N: n}
}

// sameFrame compares frames; a Data without bytes may be nil or not.
func sameFrame(a, b api.Frame) bool {
	if len(a.Data) == 0 && len(b.Data) == 0 {
		a.Data, b.Data = nil, nil
	}
	return reflect.DeepEqual(a, b)
}

func hear(t *testing.T, x *pipe.Table, l ...api.Frame) {
	t.Helper()
	for _, f := range l {
		checkHear(t, x, f, 0)
	}
}

func checkHear(t *testing.T, x *pipe.Table, f api.Frame, want uint64) {
	t.Helper()
	if c := x.Hear(f); c != want {
		t.Fatalf("Hear(%+v) = %d; want %d", f, c, want)
	}
}

// checkFrames checks what is sent with a lot of room.
func checkFrames(t *testing.T, x *pipe.Table, want ...api.Frame) []api.Frame {
	t.Helper()
	return checkFramesIn(t, x, 1<<20, want...)
}

func checkFramesIn(t *testing.T, x *pipe.Table, room int, want ...api.Frame) []api.Frame {
	t.Helper()
	l := x.Frames(room)
	if !slices.EqualFunc(l, want, sameFrame) {
		t.Fatalf("Frames(%d) = %+v; want %+v", room, l, want)
	}
	if n := sizeOf(l...); n > max(room, 0) {
		t.Fatalf("Frames(%d): %d bytes", room, n)
	}
	return l
}

func sizeOf(l ...api.Frame) int {
	p, _ := frame.Join(l...)
	return len(p)
}

func acked(x *pipe.Table, l ...api.Frame) {
	for _, f := range l {
		x.Acked(f)
	}
}

func lost(x *pipe.Table, l ...api.Frame) {
	for _, f := range l {
		x.Lost(f)
	}
}

// ack makes everything acknowledged that is to be sent.
func ack(x *pipe.Table) {
	acked(x, x.Frames(1<<20)...)
}

func open(t *testing.T, x *pipe.Table, uni bool) uint64 {
	t.Helper()
	id, e := x.Open(uni)
	if e != api.OK {
		t.Fatalf("Open(%t): %d", uni, e)
	}
	return id
}

func checkOpen(t *testing.T, x *pipe.Table, uni bool, want uint64, wantE api.Errno) {
	t.Helper()
	if id, e := x.Open(uni); id != want || e != wantE {
		t.Fatalf("Open(%t) = %d, %d; want %d, %d", uni, id, e, want, wantE)
	}
}

func write(t *testing.T, x *pipe.Table, id uint64, p string, end bool) {
	t.Helper()
	checkE(t, "Write", x.Write(id, []byte(p), end), api.OK)
}

func checkE(t *testing.T, what string, got, want api.Errno) {
	t.Helper()
	if got != want {
		t.Fatalf("%s: %d; want %d", what, got, want)
	}
}

// got is what Read returns.
type got struct {
	p    string
	done bool
	code uint64
	e    api.Errno
}

func checkRead(t *testing.T, x *pipe.Table, id uint64, most int, want got) {
	t.Helper()
	p, done, code, e := x.Read(id, most)
	if g := (got{string(p), done, code, e}); g != want {
		t.Fatalf("Read(%d, %d) = %+v; want %+v", id, most, g, want)
	}
}

func checkCame(t *testing.T, x *pipe.Table, want ...uint64) {
	t.Helper()
	if l := x.Came(); !slices.Equal(l, want) {
		t.Fatalf("Came = %v; want %v", l, want)
	}
}

func checkHeld(t *testing.T, x *pipe.Table, unread, unacked int) {
	t.Helper()
	if a, b := x.Held(); a != unread || b != unacked {
		t.Fatalf("Held = %d, %d; want %d, %d", a, b, unread, unacked)
	}
}

func checkStreams(t *testing.T, x *pipe.Table, want int) {
	t.Helper()
	if n := x.Streams(); n != want {
		t.Fatalf("Streams = %d; want %d", n, want)
	}
}

func checkIdle(t *testing.T, x *pipe.Table, want bool) {
	t.Helper()
	if idle := x.Idle(); idle != want {
		t.Fatalf("Idle = %t; want %t", idle, want)
	}
}

func repeat(n int) string {
	return strings.Repeat("x", n)
}
