package item_test

import (
	"bytes"
	"encoding/hex"
	"math"
	"testing"

	"colonnade/api"
	"colonnade/item"
)

func TestBegin(t *testing.T) {
	for _, x := range []struct {
		h    item.Head
		code string
	}{
		{item.Head{ID: 1, Group: 2, Priority: 7}, "10 01 02 07"},
		{item.Head{}, "10 00 00 00"},
		{item.Head{ID: 70, Group: 15293, Priority: 64}, "10 4046 7bbd 40"},
		{item.Head{ID: top, Group: top - 1, Priority: 255}, "10 ffffffffffffffff fffffffffffffffe ff"},
		{item.Head{Fetch: true}, "05 00"},
		{item.Head{Fetch: true, ID: 64}, "05 4040"},
		{item.Head{Fetch: true, ID: top}, "05 ffffffffffffffff"},
	} {
		if p, e := item.Begin(x.h); e != api.OK || !bytes.Equal(p, unhex(x.code)) {
			t.Errorf("Begin(%+v) = %x, %d; want %s", x.h, p, e, x.code)
		}
	}
}

func TestBeginErrors(t *testing.T) {
	for _, h := range []item.Head{
		{ID: top + 1},
		{ID: math.MaxUint64},
		{Group: top + 1},
		{Group: math.MaxUint64},
		{Fetch: true, ID: top + 1},
		{Fetch: true, Group: 1},
		{Fetch: true, Group: math.MaxUint64},
		{Fetch: true, Priority: 1},
		{Fetch: true, ID: 5, Group: 2, Priority: 255},
	} {
		if p, e := item.Begin(h); e != api.ErrForm || len(p) != 0 {
			t.Errorf("Begin(%+v) = %x, %d; want ErrForm", h, p, e)
		}
	}
}

func TestNext(t *testing.T) {
	group := item.Head{ID: 1, Group: 2, Priority: 7}
	last := item.Head{ID: top, Group: top, Priority: 255}
	fetch := item.Head{Fetch: true, ID: 9}
	for _, x := range []struct {
		h    item.Head
		o    api.Object
		code string
	}{
		{group, object(2, 0, 7, "ab"), "00 02 6162"},
		{group, object(2, 64, 7, ""), "4040 00"},
		{group, object(2, top, 7, "x"), "ffffffffffffffff 01 78"},
		{group, object(2, 3, 7, string(text(64))), "03 4040" + hex.EncodeToString(text(64))},
		{group, object(2, 3, 7, string(text(2048))), "03 4800" + hex.EncodeToString(text(2048))},
		{item.Head{}, object(0, 0, 0, ""), "00 00"},
		{last, object(top, 1, 255, "x"), "01 01 78"},
		{fetch, object(2, 0, 7, "ab"), "02 00 07 02 6162"},
		{fetch, object(0, 0, 0, ""), "00 00 00 00"},
		{fetch, object(64, 70, 255, "x"), "4040 4046 ff 01 78"},
		{fetch, object(top, top, 64, ""), "ffffffffffffffff ffffffffffffffff 40 00"},
		{fetch, object(3, 4, 5, string(text(2048))), "03 04 05 4800" + hex.EncodeToString(text(2048))},
	} {
		if p, e := item.Next(x.h, x.o); e != api.OK || !bytes.Equal(p, unhex(x.code)) {
			t.Errorf("Next(%+v, %+v) = %x, %d; want %s", x.h, x.o, p, e, x.code)
		}
	}
}

func TestNextErrors(t *testing.T) {
	group := item.Head{ID: 1, Group: 2, Priority: 7}
	fetch := item.Head{Fetch: true, ID: 9}
	long := string(text(2049))
	for _, x := range []struct {
		h    item.Head
		o    api.Object
		want api.Errno
	}{
		{group, object(2, 0, 7, long), api.ErrLong},
		{group, object(2, 0, 7, string(text(100000))), api.ErrLong},
		{fetch, object(2, 0, 7, long), api.ErrLong},
		{group, object(2, top+1, 7, "ab"), api.ErrForm},
		{group, object(2, math.MaxUint64, 7, "ab"), api.ErrForm},
		{group, object(3, 0, 7, "ab"), api.ErrForm},
		{group, object(1, 0, 7, "ab"), api.ErrForm},
		{group, object(2, 0, 6, "ab"), api.ErrForm},
		{group, object(2, 0, 8, "ab"), api.ErrForm},
		{group, gram(2, 0, 7, "ab"), api.ErrForm},
		{item.Head{Group: top + 1}, object(top+1, 0, 0, "ab"), api.ErrForm},
		{item.Head{ID: top + 1}, object(0, 0, 0, "ab"), api.ErrForm},
		{fetch, object(top+1, 0, 7, "ab"), api.ErrForm},
		{fetch, object(0, top+1, 7, "ab"), api.ErrForm},
		{fetch, object(math.MaxUint64, math.MaxUint64, 7, "ab"), api.ErrForm},
		{fetch, gram(2, 0, 7, "ab"), api.ErrForm},
		// What is too long is reported before what is wrong.
		{group, object(3, top+1, 6, long), api.ErrLong},
		{group, gram(2, 0, 7, long), api.ErrLong},
		{fetch, object(top+1, 0, 7, long), api.ErrLong},
		{fetch, gram(2, 0, 7, long), api.ErrLong},
	} {
		if p, e := item.Next(x.h, x.o); e != x.want || len(p) != 0 {
			t.Errorf("Next(%+v, %+v) = %x, %d; want %d", x.h, x.o, p, e, x.want)
		}
	}
}

// grams are datagrams.
var grams = []struct {
	alias uint64
	o     api.Object
	code  string
}{
	{9, gram(0, 0, 0, "x"), "01 09 00 00 00 78"},
	{0, gram(0, 0, 0, ""), "01 00 00 00 00"},
	{70, gram(64, 15293, 255, "ab"), "01 4046 4040 7bbd ff 6162"},
	{top, gram(top, top-1, 64, ""), "01 ffffffffffffffff ffffffffffffffff fffffffffffffffe 40"},
	{1, gram(2, 3, 4, string(text(2048))), "01 01 02 03 04" + hex.EncodeToString(text(2048))},
}

func TestGram(t *testing.T) {
	for _, x := range grams {
		if p, e := item.Gram(x.alias, x.o); e != api.OK || !bytes.Equal(p, unhex(x.code)) {
			t.Errorf("Gram(%d, %+v) = %x, %d; want %s", x.alias, x.o, p, e, x.code)
		}
	}
}

func TestGramErrors(t *testing.T) {
	long := string(text(2049))
	for _, x := range []struct {
		alias uint64
		o     api.Object
		want  api.Errno
	}{
		{1, gram(2, 3, 4, long), api.ErrLong},
		{1, object(2, 3, 4, long), api.ErrLong},
		{top + 1, gram(top+1, 3, 4, long), api.ErrLong},
		{1, object(2, 3, 4, "ab"), api.ErrForm},
		{1, object(0, 0, 0, ""), api.ErrForm},
		{top + 1, gram(2, 3, 4, "ab"), api.ErrForm},
		{math.MaxUint64, gram(2, 3, 4, "ab"), api.ErrForm},
		{1, gram(top+1, 3, 4, "ab"), api.ErrForm},
		{1, gram(2, top+1, 4, "ab"), api.ErrForm},
		{1, gram(math.MaxUint64, math.MaxUint64, 4, "ab"), api.ErrForm},
	} {
		if p, e := item.Gram(x.alias, x.o); e != x.want || len(p) != 0 {
			t.Errorf("Gram(%d, %+v) = %x, %d; want %d", x.alias, x.o, p, e, x.want)
		}
	}
}

func TestReadGram(t *testing.T) {
	check := func(p []byte, alias uint64, o api.Object) {
		t.Helper()
		if a, got, e := item.ReadGram(p); e != api.OK || a != alias || !same(got, o) {
			t.Errorf("ReadGram(%x) = %d, %+v, %d; want %d, %+v", p, a, got, e, alias, o)
		}
	}
	for _, x := range grams {
		check(unhex(x.code), x.alias, x.o)
	}
	// In any encoding.
	check(unhex("4001 80000009 c000000000000002 4003 07 6162"), 9, gram(2, 3, 7, "ab"))
	check(unhex("c000000000000001 00 00 00 00"), 0, gram(0, 0, 0, ""))
	// The data have no length of their own.
	check(unhex("01 00 00 00 00 02 6162"), 0, gram(0, 0, 0, "\x02ab"))
}

func TestReadGramErrors(t *testing.T) {
	check := func(p []byte) {
		t.Helper()
		if a, o, e := item.ReadGram(p); e != api.ErrForm || a != 0 || !same(o, api.Object{}) {
			t.Errorf("ReadGram(%x) = %d, %+v, %d; want ErrForm", p, a, o, e)
		}
	}
	check(nil)
	check([]byte{})
	for _, x := range grams {
		p := unhex(x.code)
		for n := range len(p) - len(x.o.Data) {
			check(p[:n])
		}
	}
	for mark := range 64 {
		if mark != 1 {
			check([]byte{byte(mark)})
			check(append([]byte{byte(mark)}, unhex("09 00 00 00 78")...))
		}
	}
	check(unhex("4101 09 00 00 00 78"))
	check(unhex("8001 0001 09 00 00 00 78"))
	check(append(unhex("01 09 00 00 00"), text(2049)...))
	check(append(unhex("01 09 00 00 00"), text(100000)...))
}
