package quilt_test

import (
	"bytes"
	"math"
	"strings"
	"testing"

	"colonnade/api"
	"colonnade/quilt"
)

const top = api.MaxNum

// put is a call of Put.
type put struct {
	off uint64
	p   string
	end bool
}

// quiltOf returns a quilt with pieces, each of which must be accepted.
func quiltOf(t *testing.T, l ...put) *quilt.Quilt {
	t.Helper()
	q := quilt.New()
	for _, x := range l {
		if e := q.Put(x.off, []byte(x.p), x.end); e != api.OK {
			t.Fatalf("Put(%d, %q, %t): %d", x.off, x.p, x.end, e)
		}
	}
	return q
}

// state is what a quilt tells.
type state struct {
	ready int
	high  uint64
	end   uint64
	ended bool
	read  uint64
	held  int
	done  bool
}

func told(q *quilt.Quilt) state {
	end, ended := q.End()
	return state{q.Ready(), q.High(), end, ended, q.Read(), q.Held(), q.Done()}
}

func check(t *testing.T, q *quilt.Quilt, what string, want state) {
	t.Helper()
	if got := told(q); got != want {
		t.Errorf("%s: %+v; want %+v", what, got, want)
	}
}

func checkTake(t *testing.T, q *quilt.Quilt, most int, want string, wantDone bool) {
	t.Helper()
	if p, done := q.Take(most); string(p) != want || done != wantDone {
		t.Errorf("Take(%d) = %q, %t; want %q, %t", most, p, done, want, wantDone)
	}
}

func TestNew(t *testing.T) {
	q := quilt.New()
	check(t, q, "New", state{})
	checkTake(t, q, 9, "", false)
	check(t, q, "after Take", state{})
}

func TestExamples(t *testing.T) {
	q := quiltOf(t, put{2, "cd", false}, put{0, "abx", false})
	checkTake(t, q, 9, "abcd", false)
	if e := q.Put(4, []byte("e"), true); e != api.OK {
		t.Errorf("Put of the end: %d", e)
	}
	if e := q.Put(9, []byte("z"), false); e != api.ErrForm {
		t.Errorf("Put beyond the end: %d", e)
	}
	checkTake(t, q, 9, "e", true)
}

func TestPut(t *testing.T) {
	for _, x := range []struct {
		what string
		puts []put
		want state
		all  string
	}{
		{"one piece", []put{{0, "abc", false}}, state{ready: 3, high: 3, held: 3}, "abc"},
		{"one piece with the end", []put{{0, "abc", true}}, state{ready: 3, high: 3, end: 3, ended: true, held: 3}, "abc"},
		{"one after the other", []put{{0, "abc", false}, {3, "de", true}}, state{ready: 5, high: 5, end: 5, ended: true, held: 5}, "abcde"},
		{"the later one first", []put{{3, "de", true}, {0, "abc", false}}, state{ready: 5, high: 5, end: 5, ended: true, held: 5}, "abcde"},
		{"after a gap", []put{{1, "bc", false}}, state{high: 3, held: 2}, ""},
		{"before and after a gap", []put{{4, "e", true}, {0, "ab", false}}, state{ready: 2, high: 5, end: 5, ended: true, held: 3}, "ab"},
		{"two gaps, of which the first is filled", []put{{6, "g", false}, {2, "cd", false}, {0, "ab", false}}, state{ready: 4, high: 7, held: 5}, "abcd"},
		{"far away", []put{{top - 2, "yz", false}}, state{high: top, held: 2}, ""},
		{"at the very end", []put{{top - 2, "yz", true}}, state{high: top, end: top, ended: true, held: 2}, ""},
		{"nothing", []put{{0, "", false}}, state{}, ""},
		{"nothing at an offset", []put{{7, "", false}}, state{high: 7}, ""},
		{"nothing at the last offset", []put{{top, "", false}}, state{high: top}, ""},
		{"nothing below what was received", []put{{0, "abc", false}, {2, "", false}}, state{ready: 3, high: 3, held: 3}, "abc"},
		{"an empty stream", []put{{0, "", true}}, state{ended: true, done: true}, ""},
		{"an end without bytes", []put{{3, "", true}}, state{high: 3, end: 3, ended: true}, ""},
		{"the end at last", []put{{0, "abc", false}, {3, "", true}}, state{ready: 3, high: 3, end: 3, ended: true, held: 3}, "abc"},
		{"the end at the last offset", []put{{top, "", true}}, state{high: top, end: top, ended: true}, ""},
		{"the end twice", []put{{0, "abc", true}, {1, "bc", true}, {3, "", true}}, state{ready: 3, high: 3, end: 3, ended: true, held: 3}, "abc"},
		{"up to the end again without saying so", []put{{1, "bc", true}, {2, "c", false}, {3, "", false}}, state{high: 3, end: 3, ended: true, held: 2}, ""},
	} {
		q := quiltOf(t, x.puts...)
		check(t, q, x.what, x.want)
		checkTake(t, q, math.MaxInt, x.all, x.want.ended && x.want.end == uint64(len(x.all)))
	}
}

// Of a byte that is received more than once, the first value counts.
func TestFirstValueCounts(t *testing.T) {
	for _, x := range []struct {
		what string
		puts []put
		all  string
	}{
		{"the same piece", []put{{0, "abc", false}, {0, "xyz", false}}, "abc"},
		{"a shorter one", []put{{0, "abc", false}, {1, "y", false}}, "abc"},
		{"a longer one", []put{{1, "b", false}, {0, "xyz", false}}, "xbz"},
		{"one over the beginning", []put{{2, "cd", false}, {0, "wxyz", false}}, "wxcd"},
		{"one over the end", []put{{0, "abc", false}, {2, "xyz", false}}, "abcyz"},
		{"one over many", []put{{1, "b", false}, {3, "d", false}, {5, "f", false}, {0, "tuvwxyz", false}}, "tbvdxfz"},
		{"one that fills a gap", []put{{4, "ef", false}, {0, "ab", false}, {1, "wxyz", false}}, "abxyef"},
		{"the end again", []put{{2, "cd", true}, {0, "wxyz", true}}, "wxcd"},
		{"three times", []put{{1, "b", false}, {1, "yz", false}, {0, "pqr", false}}, "pbz"},
	} {
		q := quiltOf(t, x.puts...)
		if n := q.Held(); n != len(x.all) {
			t.Errorf("%s: Held = %d; want %d", x.what, n, len(x.all))
		}
		_, ended := q.End()
		checkTake(t, q, 99, x.all, ended)
	}
}

// Bytes that were read before do not count again.
func TestPutOfReadBytes(t *testing.T) {
	q := quiltOf(t, put{0, "abcdef", false})
	checkTake(t, q, 4, "abcd", false)
	for _, x := range []put{{0, "xyz", false}, {0, "wxyz", false}, {2, "yz", false}, {3, "xyz", false}, {4, "", false}, {1, "", false}} {
		if e := q.Put(x.off, []byte(x.p), x.end); e != api.OK {
			t.Errorf("Put(%d, %q): %d", x.off, x.p, e)
		}
		check(t, q, "after a piece again", state{ready: 2, high: 6, read: 4, held: 2})
	}
	if e := q.Put(2, []byte("uvwxyz"), true); e != api.OK {
		t.Errorf("Put up to the end: %d", e)
	}
	check(t, q, "after more of it", state{ready: 4, high: 8, end: 8, ended: true, read: 4, held: 4})
	checkTake(t, q, 99, "efyz", true)
	if e := q.Put(0, []byte("ABCDEFGH"), true); e != api.OK {
		t.Errorf("Put of everything: %d", e)
	}
	check(t, q, "after everything again", state{high: 8, end: 8, ended: true, read: 8, done: true})
	checkTake(t, q, 99, "", true)
}

// What is refused changes nothing.
func TestPutOfInvalid(t *testing.T) {
	for _, x := range []struct {
		what string
		puts []put
		bad  put
		want api.Errno
	}{
		{"above all offsets", nil, put{top + 1, "", false}, api.ErrArg},
		{"an end above all offsets", nil, put{top + 1, "", true}, api.ErrArg},
		{"a byte at the last offset", nil, put{top, "x", false}, api.ErrArg},
		{"one byte too many", nil, put{top - 2, "xyz", false}, api.ErrArg},
		{"an end one byte too far", nil, put{top - 2, "xyz", true}, api.ErrArg},
		{"an offset of 2^63", nil, put{1 << 63, "x", false}, api.ErrArg},
		{"the largest offset", nil, put{math.MaxUint64, "", false}, api.ErrArg},
		{"a piece that wraps round", nil, put{math.MaxUint64, "xyz", false}, api.ErrArg},
		{"above all offsets and beyond the end", []put{{0, "abc", true}}, put{top, "x", true}, api.ErrArg},
		{"beyond the end", []put{{0, "abc", true}}, put{3, "x", false}, api.ErrForm},
		{"over the end", []put{{0, "abc", true}}, put{1, "xyz", false}, api.ErrForm},
		{"far beyond the end", []put{{0, "abc", true}}, put{top - 1, "x", false}, api.ErrForm},
		{"nothing beyond the end", []put{{0, "abc", true}}, put{4, "", false}, api.ErrForm},
		{"a later end", []put{{0, "abc", true}}, put{3, "x", true}, api.ErrForm},
		{"a later end without bytes", []put{{0, "abc", true}}, put{4, "", true}, api.ErrForm},
		{"an earlier end", []put{{0, "abc", true}}, put{0, "ab", true}, api.ErrForm},
		{"an earlier end of which nothing came", []put{{9, "", true}}, put{0, "ab", true}, api.ErrForm},
		{"an end of 0 after another one", []put{{9, "", true}}, put{0, "", true}, api.ErrForm},
		{"a byte of an empty stream", []put{{0, "", true}}, put{0, "x", false}, api.ErrForm},
		{"an end below what came", []put{{4, "ef", false}}, put{0, "abcde", true}, api.ErrForm},
		{"an end of 0 after a byte", []put{{0, "a", false}}, put{0, "", true}, api.ErrForm},
		{"an end below an empty piece", []put{{9, "", false}}, put{0, "ab", true}, api.ErrForm},
	} {
		q := quiltOf(t, x.puts...)
		before := told(q)
		if e := q.Put(x.bad.off, []byte(x.bad.p), x.bad.end); e != x.want {
			t.Errorf("%s: %d; want %d", x.what, e, x.want)
		}
		check(t, q, x.what, before)
		if len(x.puts) > 0 && x.puts[0].off == 0 {
			checkTake(t, q, 99, x.puts[0].p, before.ended)
		}
	}
}

// What was received counts also after it was read.
func TestEndBelowWhatWasRead(t *testing.T) {
	q := quiltOf(t, put{0, "abc", false})
	checkTake(t, q, 99, "abc", false)
	for _, at := range []uint64{0, 2} {
		if e := q.Close(at); e != api.ErrForm {
			t.Errorf("Close(%d): %d", at, e)
		}
	}
	check(t, q, "after errors", state{high: 3, read: 3})
	if e := q.Close(3); e != api.OK {
		t.Errorf("Close(3): %d", e)
	}
	check(t, q, "closed", state{high: 3, end: 3, ended: true, read: 3, done: true})
	checkTake(t, q, 0, "", true)
}

// Close does what Put of nothing with the end does.
func TestClose(t *testing.T) {
	for _, puts := range [][]put{nil, {{0, "abc", false}}, {{1, "bc", false}}, {{0, "abc", true}}, {{5, "", false}}, {{0, "", true}}, {{top - 1, "z", false}}} {
		for _, at := range []uint64{0, 1, 2, 3, 4, 5, 6, top - 1, top, top + 1, 1 << 63, math.MaxUint64} {
			a, b := quiltOf(t, puts...), quiltOf(t, puts...)
			e := a.Close(at)
			if want := b.Put(at, nil, true); e != want {
				t.Errorf("%v: Close(%d): %d; want %d", puts, at, e, want)
			}
			check(t, a, "after Close", told(b))
		}
	}
	q := quiltOf(t, put{0, "abc", false})
	for at, want := range map[uint64]api.Errno{top + 1: api.ErrArg, math.MaxUint64: api.ErrArg, 2: api.ErrForm, 0: api.ErrForm} {
		if e := q.Close(at); e != want {
			t.Errorf("Close(%d): %d; want %d", at, e, want)
		}
	}
	check(t, q, "after errors", state{ready: 3, high: 3, held: 3})
	if e := q.Close(5); e != api.OK {
		t.Errorf("Close(5): %d", e)
	}
	check(t, q, "closed", state{ready: 3, high: 5, end: 5, ended: true, held: 3})
	if e := q.Close(6); e != api.ErrForm {
		t.Errorf("Close(6): %d", e)
	}
}

func TestTake(t *testing.T) {
	q := quiltOf(t, put{0, "abcdefgh", false}, put{9, "j", true})
	for _, most := range []int{0, -1, math.MinInt} {
		checkTake(t, q, most, "", false)
		check(t, q, "nothing taken", state{ready: 8, high: 10, end: 10, ended: true, held: 9})
	}
	checkTake(t, q, 1, "a", false)
	check(t, q, "one taken", state{ready: 7, high: 10, end: 10, ended: true, read: 1, held: 8})
	checkTake(t, q, 3, "bcd", false)
	checkTake(t, q, 4, "efgh", false)
	checkTake(t, q, math.MaxInt, "", false)
	check(t, q, "up to the gap", state{high: 10, end: 10, ended: true, read: 8, held: 1})
	if e := q.Put(7, []byte("xi"), false); e != api.OK {
		t.Errorf("Put into the gap: %d", e)
	}
	check(t, q, "the gap filled", state{ready: 2, high: 10, end: 10, ended: true, read: 8, held: 2})
	checkTake(t, q, 1, "i", false)
	checkTake(t, q, 1, "j", true)
	check(t, q, "everything", state{high: 10, end: 10, ended: true, read: 10, done: true})
	for _, most := range []int{-1, 0, 1, math.MaxInt} {
		checkTake(t, q, most, "", true)
	}
}

// A quilt puts together long pieces, too, in whatever order they come and are read.
func TestLongPieces(t *testing.T) {
	text := strings.Repeat("0123456789abcdefghijklmnopqrstuvwxyz-", 20)
	for _, size := range []int{1, 2, 7, 8, 63, 64, 65, 100, 128, 700} {
		for _, most := range []int{1, 5, 63, 64, 65, 128, 1000} {
			rising, falling := quilt.New(), quilt.New()
			var got []byte
			for at := 0; at < len(text); at += size {
				to := min(at+size, len(text))
				rising.Put(uint64(at), []byte(text[at:to]), to == len(text))
				p, _ := rising.Take(most)
				got = append(got, p...)
				from := max(len(text)-to, 0)
				falling.Put(uint64(from), []byte(text[from:len(text)-at]), false)
				if n := falling.Held(); n != to {
					t.Fatalf("Held = %d; want %d", n, to)
				}
			}
			falling.Close(uint64(len(text)))
			if all := string(got) + drained(t, rising, most); all != text {
				t.Fatalf("pieces of %d, in turn: %q", size, all)
			}
			if all := drained(t, falling, most); all != text {
				t.Fatalf("pieces of %d, from the last on: %q", size, all)
			}
		}
	}
}

// drained takes all that is left, and checks that it is all.
func drained(t *testing.T, q *quilt.Quilt, most int) string {
	t.Helper()
	var all []byte
	for !q.Done() {
		p, _ := q.Take(most)
		if len(p) == 0 || len(p) > most {
			t.Fatalf("Take(%d) returned %d bytes", most, len(p))
		}
		all = append(all, p...)
	}
	return string(all)
}

// A nil quilt has nothing and takes nothing.
func TestNil(t *testing.T) {
	var q *quilt.Quilt
	for _, x := range []put{{}, {0, "abc", true}, {top, "abc", false}, {math.MaxUint64, "", true}} {
		if e := q.Put(x.off, []byte(x.p), x.end); e != api.ErrNone {
			t.Errorf("Put(%d, %q) to nil: %d", x.off, x.p, e)
		}
	}
	for _, at := range []uint64{0, top, math.MaxUint64} {
		if e := q.Close(at); e != api.ErrNone {
			t.Errorf("Close(%d) of nil: %d", at, e)
		}
	}
	for _, most := range []int{math.MinInt, 0, math.MaxInt} {
		checkTake(t, q, most, "", false)
	}
	check(t, q, "nil", state{})
}

// A quilt shares no memory with an argument, a result or another quilt, and results share none.
func TestMemory(t *testing.T) {
	q, other := quilt.New(), quilt.New()
	whole := bytes.Repeat([]byte("abcdefghij"), 30)
	want := string(whole)
	for _, x := range []*quilt.Quilt{q, other} {
		x.Put(250, whole[250:], true)
		x.Put(0, whole[:200], false)
		x.Put(200, whole[200:250:300], false)
	}
	if string(whole) != want {
		t.Errorf("the argument is %q now", whole)
	}
	spoil(whole)
	a, _ := q.Take(70)
	b, _ := q.Take(70)
	spoil(a)
	if string(b) != want[70:140] {
		t.Errorf("a result is %q after another one was changed", b)
	}
	spoil(b)
	q.Put(100, []byte("xyz"), false)
	if c, _ := q.Take(999); string(c) != want[140:] {
		t.Errorf("%q is taken after results were changed", c)
	}
	checkTake(t, other, 999, want, true)
}

// spoil overwrites slices with their spare capacity.
func spoil(l ...[]byte) {
	for _, p := range l {
		p = p[:cap(p)]
		for i := range p {
			p[i] = '!'
		}
	}
}

// Many pieces that come from the last on, and many small reads of one large piece, take no longer than they are long.
func TestMany(t *testing.T) {
	const n = 1 << 19
	q := quilt.New()
	for i := uint64(n); i > 0; i-- {
		q.Put(2*i, []byte{byte(i)}, false)
	}
	if q.Held() != n || q.Ready() != 0 {
		t.Fatalf("Held = %d, Ready = %d", q.Held(), q.Ready())
	}
	q.Put(0, make([]byte, 2*n), false)
	if q.Held() != 2*n+1 || q.Ready() != 2*n+1 {
		t.Fatalf("Held = %d, Ready = %d", q.Held(), q.Ready())
	}
	for i := range uint64(2*n + 1) {
		want := byte(0)
		if i%2 == 0 {
			want = byte(i / 2)
		}
		if p, _ := q.Take(1); len(p) != 1 || p[0] != want {
			t.Fatalf("byte %d is %x", i, p)
		}
	}
	check(t, q, "everything read", state{high: 2*n + 1, read: 2*n + 1})
}
