package item_test

import (
	"encoding/hex"
	"slices"
	"testing"

	"colonnade/api"
	"colonnade/item"
)

// element is the beginning of a stream, or an object in it.
type element struct {
	code string
	o    api.Object
}

// stream is one, the first element of which is the beginning.
type stream struct {
	h item.Head
	l []element
}

var streams = []stream{
	{item.Head{ID: 1, Group: 2, Priority: 7}, []element{
		{code: "10 01 02 07"},
		{"00 02 6162", object(2, 0, 7, "ab")},
		{"01 00", object(2, 1, 7, "")},
		{"3f 01 10", object(2, 63, 7, "\x10")},
		{"4040 03 000000", object(2, 64, 7, "\x00\x00\x00")},
		{"80010000 00", object(2, 65536, 7, "")},
		{"ffffffffffffffff 01 78", object(2, top, 7, "x")},
	}},
	// Numbers in other encodings.
	{item.Head{ID: 1, Group: 2, Priority: 7}, []element{
		{code: "4010 80000001 c000000000000002 07"},
		{"4003 4002 6162", object(2, 3, 7, "ab")},
		{"c000000000000004 80000000", object(2, 4, 7, "")},
		{"05 c000000000000001 78", object(2, 5, 7, "x")},
	}},
	{item.Head{ID: top, Group: top, Priority: 255}, []element{
		{code: "10 ffffffffffffffff ffffffffffffffff ff"},
		{"00 4800" + hex.EncodeToString(text(2048)), object(top, 0, 255, string(text(2048)))},
		{"01 4041" + hex.EncodeToString(text(65)), object(top, 1, 255, string(text(65)))},
	}},
	{item.Head{}, []element{{code: "10 00 00 00"}}},
	{item.Head{Fetch: true, ID: 9}, []element{
		{code: "05 09"},
		{"00 00 00 00", object(0, 0, 0, "")},
		{"00 01 ff 02 6162", object(0, 1, 255, "ab")},
		{"01 00 03 01 78", object(1, 0, 3, "x")},
		{"01 05 02 01 79", object(1, 5, 2, "y")},
		{"02 04 02 00", object(2, 4, 2, "")},
		{"4040 00 01 4800" + hex.EncodeToString(text(2048)), object(64, 0, 1, string(text(2048)))},
		{"ffffffffffffffff ffffffffffffffff 40 00", object(top, top, 64, "")},
	}},
	{item.Head{Fetch: true, ID: 64}, []element{
		{code: "8000 0005 4040"},
		{"4003 c000000000000004 05 4002 6162", object(3, 4, 5, "ab")},
		{"80000003 4005 05 00", object(3, 5, 5, "")},
	}},
	{item.Head{Fetch: true}, []element{{code: "05 00"}}},
}

// bytes returns the whole stream, and where each of its elements ends.
func (s stream) bytes() ([]byte, []int) {
	var p []byte
	var ends []int
	for _, x := range s.l {
		p = append(p, unhex(x.code)...)
		ends = append(ends, len(p))
	}
	return p, ends
}

// objects returns the objects that end after from bytes of the stream, but within the first to ones.
func (s stream) objects(from, to int) []api.Object {
	var l []api.Object
	_, ends := s.bytes()
	for i, x := range s.l {
		if i > 0 && ends[i] > from && ends[i] <= to {
			l = append(l, x.o)
		}
	}
	return l
}

// check checks the reader of a stream, of which n bytes came.
func (s stream) check(t *testing.T, r *item.Reader, n int) {
	t.Helper()
	_, ends := s.bytes()
	held := n
	for _, end := range ends {
		if end <= n {
			held = n - end
		}
	}
	checkHeld(t, r, held)
	if n < ends[0] {
		checkHead(t, r, nil)
	} else {
		checkHead(t, r, &s.h)
	}
}

func TestNewReader(t *testing.T) {
	r := item.NewReader()
	checkHead(t, r, nil)
	checkHeld(t, r, 0)
	checkPut(t, r, nil, false, nil, api.OK)
	checkPut(t, r, []byte{}, false, nil, api.OK)
	checkHead(t, r, nil)
	checkHeld(t, r, 0)
}

func TestPutAtOnce(t *testing.T) {
	for _, s := range streams {
		p, _ := s.bytes()
		for _, end := range []bool{false, true} {
			r := item.NewReader()
			checkPut(t, r, p, end, s.objects(0, len(p)), api.OK)
			s.check(t, r, len(p))
		}
	}
}

// Wherever a stream is cut, each of its parts brings the objects that it completes.
func TestPutInParts(t *testing.T) {
	for _, s := range streams {
		p, _ := s.bytes()
		for _, size := range []int{1, 2, 3, 5, 7, 64, 1000} {
			r := item.NewReader()
			for at := 0; at < len(p); at += size {
				to := min(at+size, len(p))
				checkPut(t, r, nil, false, nil, api.OK)
				checkPut(t, r, p[at:to], false, s.objects(at, to), api.OK)
				s.check(t, r, to)
			}
			checkPut(t, r, nil, true, nil, api.OK)
			s.check(t, r, len(p))
			checkOver(t, r)
		}
		for cut := range p {
			r := item.NewReader()
			checkPut(t, r, p[:cut], false, s.objects(0, cut), api.OK)
			s.check(t, r, cut)
			checkPut(t, r, p[cut:], true, s.objects(cut, len(p)), api.OK)
			s.check(t, r, len(p))
		}
	}
}

// A stream may end after its beginning and after each object, but nowhere else.
func TestPutOfEnds(t *testing.T) {
	for _, s := range streams {
		p, ends := s.bytes()
		for cut := range len(p) + 1 {
			want := api.ErrForm
			if slices.Contains(ends, cut) {
				want = api.OK
			}
			r := item.NewReader()
			checkPut(t, r, p[:cut], true, s.objects(0, cut), want)
			if cut < ends[0] {
				checkHead(t, r, nil)
			} else {
				checkHead(t, r, &s.h)
			}
			checkOver(t, r)

			r = item.NewReader()
			checkPut(t, r, p[:cut], false, s.objects(0, cut), api.OK)
			checkPut(t, r, nil, true, nil, want)
			checkOver(t, r)
		}
	}
}

// wrongs are streams that are right up to their last byte. The number tells how many objects are in them.
var wrongs = []struct {
	right, last string
	n           int
}{
	// The beginning.
	{"", "00", 0},
	{"", "01", 0},
	{"", "04", 0},
	{"", "06", 0},
	{"", "0f", 0},
	{"", "11", 0},
	{"", "33", 0},
	{"40", "11", 0},
	{"41", "10", 0},
	{"800001", "05", 0},
	{"c1000000000000", "10", 0},
	// An object's number that isn't greater.
	{"10 01 02 07 05 00", "05", 1},
	{"10 01 02 07 05 00", "04", 1},
	{"10 01 02 07 05 00", "00", 1},
	{"10 01 02 07 00 00", "00", 1},
	{"10 01 02 07 05 00 06 00", "05", 2},
	{"10 01 02 07 05 00 06 00", "06", 2},
	{"10 01 02 07 05 01 78 40", "05", 1},
	{"10 01 02 07 05 01 78 c0000000000000", "04", 1},
	{"10 01 02 07 ffffffffffffffff 00", "00", 1},
	{"10 01 02 07 ffffffffffffffff 00 ffffffffffffff", "ff", 1},
	// A place that isn't after the last one: the priority is waited for.
	{"05 01 02 03 07 00 02 03", "07", 1},
	{"05 01 02 03 07 00 02 03", "08", 1},
	{"05 01 02 03 07 00 02 02", "07", 1},
	{"05 01 02 03 07 00 02 00", "00", 1},
	{"05 01 02 03 07 00 01 3f", "07", 1},
	{"05 01 02 03 07 00 00 00", "07", 1},
	{"05 01 02 03 07 00 01 ffffffffffffffff", "07", 1},
	{"05 01 02 03 07 00 03 00 07 00 02 04", "07", 2},
	{"05 01 02 03 07 00 03 00 07 00 03 00", "07", 2},
	{"05 01 00 00 00 00 00 00", "00", 1},
	{"05 01 ffffffffffffffff ffffffffffffffff 07 00 ffffffffffffffff fffffffffffffffe", "07", 1},
	// More bytes than an object has.
	{"10 01 02 07 05 48", "01", 0},
	{"10 01 02 07 05 7f", "ff", 0},
	{"10 01 02 07 05 800008", "01", 0},
	{"10 01 02 07 05 ffffffffffffff", "ff", 0},
	{"10 01 02 07 05 00 06 48", "01", 1},
	{"05 01 02 03 07 48", "01", 0},
	{"05 01 02 03 07 00 02 04 07 48", "01", 1},
}

// A stream is wrong as soon as its last byte shows it.
func TestPutOfWrongs(t *testing.T) {
	for _, x := range wrongs {
		right, last := unhex(x.right), unhex(x.last)
		r := item.NewReader()
		n := 0
		for _, b := range right {
			l, e := r.Put([]byte{b}, false)
			if n += len(l); e != api.OK {
				t.Fatalf("Put of %s is %d too early", x.right, e)
			}
		}
		if n != x.n {
			t.Errorf("%d objects are in %s; want %d", n, x.right, x.n)
		}
		h, ok := r.Head()
		checkPut(t, r, last, false, nil, api.ErrForm)
		if h2, ok2 := r.Head(); h2 != h || ok2 != ok {
			t.Errorf("Head() = %+v, %t after an error; want %+v, %t", h2, ok2, h, ok)
		}
		checkOver(t, r)
	}
}

// What was complete before an error comes together with it, whatever follows.
func TestPutOfWrongsAtOnce(t *testing.T) {
	for _, x := range wrongs {
		good := item.NewReader()
		want, _ := good.Put(unhex(x.right), false)
		for _, more := range []string{"", "00", "07 00", "ffffffff"} {
			for _, end := range []bool{false, true} {
				r := item.NewReader()
				checkPut(t, r, unhex(x.right+x.last+more), end, want, api.ErrForm)
				if h, ok := good.Head(); ok {
					checkHead(t, r, &h)
				} else {
					checkHead(t, r, nil)
				}
				checkOver(t, r)
			}
		}
	}
}

func TestNilReader(t *testing.T) {
	var r *item.Reader
	for _, end := range []bool{false, true} {
		checkPut(t, r, nil, end, nil, api.ErrNone)
		checkPut(t, r, unhex("10 01 02 07 00 00"), end, nil, api.ErrNone)
		checkPut(t, r, unhex("33"), end, nil, api.ErrNone)
	}
	checkHead(t, r, nil)
	checkHeld(t, r, 0)
}
