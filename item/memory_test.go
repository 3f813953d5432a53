package item_test

import (
	"bytes"
	"runtime"
	"slices"
	"testing"

	"colonnade/api"
	"colonnade/item"
)

func flip(p []byte) {
	p = p[:cap(p)]
	for i := range p {
		p[i] ^= 0xff
	}
}

// A reader keeps none of the bytes that it is given, nor of those that it returns.
func TestMemoryOfPut(t *testing.T) {
	for _, s := range streams {
		p, _ := s.bytes()
		for _, size := range []int{1, 4, 50, len(p)} {
			r := item.NewReader()
			var l []api.Object
			for at := 0; at < len(p); at += size {
				piece := append(slices.Clone(p[at:min(at+size, len(p))]), text(20)...)
				whole := slices.Clone(piece)
				got, e := r.Put(piece[:len(piece)-20], false)
				if e != api.OK || !bytes.Equal(piece, whole) {
					t.Fatalf("Put changes its argument, or returns %d", e)
				}
				flip(piece)
				l = append(l, got...)
				for _, o := range got {
					flip(o.Data)
				}
			}
			for _, o := range l {
				flip(o.Data)
			}
			if want := s.objects(0, len(p)); !equal(l, want) {
				t.Errorf("in parts of %d bytes the objects are %+v; want %+v", size, l, want)
			}
		}
	}
}

// No two objects share memory, and neither do two results.
func TestMemoryOfObjects(t *testing.T) {
	for _, s := range streams {
		p, _ := s.bytes()
		a, _ := item.NewReader().Put(p, true)
		b, _ := item.NewReader().Put(p, true)
		all := append(slices.Clone(a), b...)
		for i := range all {
			for j := range all {
				kept := slices.Clone(all[j].Data[:cap(all[j].Data)])
				flip(all[i].Data)
				if i != j && !bytes.Equal(all[j].Data[:cap(all[j].Data)], kept) {
					t.Errorf("objects %d and %d share memory", i, j)
				}
				flip(all[i].Data)
			}
		}
		clear(a[:cap(a)])
		if !equal(b, s.objects(0, len(p))) {
			t.Error("two results of Put share memory")
		}
	}
}

func TestMemoryOfWriting(t *testing.T) {
	group, fetch := item.Head{ID: 1, Group: 2, Priority: 7}, item.Head{Fetch: true, ID: 1}
	for _, x := range []struct {
		what  string
		gram  bool
		write func(api.Object) ([]byte, api.Errno)
	}{
		{"Next in a group", false, func(o api.Object) ([]byte, api.Errno) { return item.Next(group, o) }},
		{"Next in a fetch", false, func(o api.Object) ([]byte, api.Errno) { return item.Next(fetch, o) }},
		{"Gram", true, func(o api.Object) ([]byte, api.Errno) { return item.Gram(1, o) }},
		{"Begin", false, func(api.Object) ([]byte, api.Errno) { return item.Begin(group) }},
	} {
		data := text(60)
		o := object(2, 3, 7, "")
		o.Gram, o.Data = x.gram, data[:5]
		p, e := x.write(o)
		q, e2 := x.write(o)
		kept := slices.Clone(q)
		flip(p)
		if e != api.OK || e2 != api.OK || !bytes.Equal(q, kept) {
			t.Errorf("two results of %s share memory", x.what)
		}
		if !bytes.Equal(data, text(60)) {
			t.Errorf("%s changes its argument", x.what)
		}
	}
}

func TestMemoryOfReadGram(t *testing.T) {
	for _, x := range grams {
		p := append(unhex(x.code), text(20)...)
		whole := slices.Clone(p)
		_, a, _ := item.ReadGram(p[:len(p)-20])
		_, b, e := item.ReadGram(p[:len(p)-20])
		if e != api.OK || !bytes.Equal(p, whole) {
			t.Fatalf("ReadGram changes its argument, or returns %d", e)
		}
		flip(a.Data)
		if !bytes.Equal(p, whole) || !same(b, x.o) {
			t.Error("what ReadGram returns shares memory")
		}
		flip(p)
		if !same(b, x.o) {
			t.Error("what ReadGram returns shares memory with its argument")
		}
	}
}

// The work is in proportion to the bytes, in one part or in many.
func TestPutOfManyBytes(t *testing.T) {
	h := item.Head{ID: 1, Group: 2, Priority: 7}
	var l []api.Object
	for i := range uint64(1000) {
		l = append(l, object(2, i, 7, string(text(2000))))
	}
	p := encode(t, h, l)
	if got, e := item.NewReader().Put(p, true); e != api.OK || !equal(got, l) {
		t.Errorf("Put of %d bytes: %d objects, %d", len(p), len(got), e)
	}
	r := item.NewReader()
	n := 0
	for i := range p {
		got, e := r.Put(p[i:i+1], false)
		if e != api.OK {
			t.Fatalf("Put of byte %d: %d", i, e)
		}
		n += len(got)
	}
	if n != len(l) {
		t.Errorf("Put byte by byte: %d objects", n)
	}
}

// A reader that waits for the rest of an object holds no memory of the objects before it.
func TestMemoryOfWaiting(t *testing.T) {
	h := item.Head{ID: 1, Group: 2, Priority: 7}
	var l []api.Object
	for i := range uint64(50) {
		l = append(l, object(2, i, 7, string(text(2000))))
	}
	p := append(encode(t, h, l), 60)
	used := func() uint64 {
		var m runtime.MemStats
		runtime.GC()
		runtime.ReadMemStats(&m)
		return m.HeapAlloc
	}
	before := used()
	var all []*item.Reader
	for range 200 {
		r := item.NewReader()
		if _, e := r.Put(p, false); e != api.OK || r.Held() != 1 {
			t.Fatalf("Put: %d, and %d bytes wait", e, r.Held())
		}
		all = append(all, r)
	}
	if after := used(); after > before+4_000_000 {
		t.Errorf("%d readers that hold a byte each use %d bytes", len(all), after-before)
	}
	runtime.KeepAlive(all)
}
