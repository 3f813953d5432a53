package frame_test

import (
	"bytes"
	"math"
	"slices"
	"testing"

	"colonnade/api"
	"colonnade/frame"
)

func TestAsks(t *testing.T) {
	quiet := []uint64{api.Padding, api.Ack, api.Close, api.CloseApp}
	check := func(kind uint64) {
		want := slices.Contains(kinds, kind) && !slices.Contains(quiet, kind)
		if frame.Asks(kind) != want {
			t.Errorf("Asks(%x) = %t", kind, !want)
		}
	}
	for kind := range uint64(300) {
		check(kind)
	}
	for _, kind := range []uint64{1<<32 | api.Ping, top, math.MaxUint64} {
		check(kind)
	}
}

func TestFits(t *testing.T) {
	early := []uint64{api.Padding, api.Ping, api.Ack, api.Crypto, api.Close}
	check := func(kind uint64, level int) {
		var want bool
		switch level {
		case api.Initial, api.Handshake:
			want = slices.Contains(early, kind)
		case api.App:
			want = slices.Contains(kinds, kind)
		}
		if frame.Fits(kind, level) != want {
			t.Errorf("Fits(%x, %d) = %t", kind, level, !want)
		}
	}
	for _, level := range []int{api.Initial, api.Handshake, api.App, -1, 3, 4, math.MinInt, math.MaxInt} {
		for kind := range uint64(300) {
			check(kind, level)
		}
		for _, kind := range []uint64{1<<32 | api.Ping, top, math.MaxUint64} {
			check(kind, level)
		}
	}
}

// full is a frame in which every field is set, with spare capacity.
func full() api.Frame {
	return api.Frame{
		Kind: api.Stream, ID: 1, Off: 2, N: 3, Code: 4, Fin: true,
		Data: text(40)[:5], Token: text(60)[:16], Ranges: many(9)[:3],
	}
}

func TestCopy(t *testing.T) {
	f := full()
	g := frame.Copy(f)
	if !same(f, g) || !same(f, full()) {
		t.Fatalf("Copy(%+v) = %+v", f, g)
	}
	spoil(&g)
	if !same(f, full()) || !bytes.Equal(f.Data[:40], text(40)) || !bytes.Equal(f.Token[:60], text(60)) || !slices.Equal(f.Ranges[:9], many(9)) {
		t.Error("a copy shares memory with its frame")
	}
	g = frame.Copy(f)
	spoil(&f)
	if !same(g, full()) {
		t.Error("a copy shares memory with its frame")
	}
	if !zero(frame.Copy(api.Frame{})) {
		t.Error("the copy of the zero frame is not one")
	}
	for _, x := range known {
		if !same(frame.Copy(x.f), x.f) {
			t.Errorf("Copy(%+v) = %+v", x.f, frame.Copy(x.f))
		}
	}
}

// spoil overwrites the slices of a frame with their spare capacity.
func spoil(f *api.Frame) {
	flip(f.Data)
	flip(f.Token)
	l := f.Ranges[:cap(f.Ranges)]
	for i := range l {
		l[i] = api.Range{From: ^l[i].From, To: ^l[i].To}
	}
}

func flip(p []byte) {
	p = p[:cap(p)]
	for i := range p {
		p[i] ^= 0xff
	}
}

// Arguments stay as they are with their spare capacity, and results share no memory with them or with each other.
func TestMemory(t *testing.T) {
	for _, x := range known {
		p := append(unhex(x.code), text(50)...)
		size := len(p) - 50 + 5
		whole := slices.Clone(p)
		f, rest := mustRead(t, p[:size])
		g, rest2 := mustRead(t, p[:size])
		if !bytes.Equal(p, whole) {
			t.Fatalf("Read of kind %x changes its argument", x.f.Kind)
		}
		all := [][]byte{p, f.Data, f.Token, rest, g.Data, g.Token, rest2}
		for i, q := range all {
			for j, r := range all {
				kept := slices.Clone(r[:cap(r)])
				flip(q)
				if i != j && !bytes.Equal(r[:cap(r)], kept) {
					t.Errorf("kind %x: result %d shares memory with result %d", x.f.Kind, i, j)
				}
				flip(q)
			}
		}
	}
}

func TestMemoryOfBytes(t *testing.T) {
	for _, x := range known {
		f := frame.Copy(x.f)
		f.Data = append(slices.Clone(f.Data), text(60)...)[:len(f.Data)]
		f.Token = append(slices.Clone(f.Token), text(60)...)[:len(f.Token)]
		kept := [][]byte{slices.Clone(f.Data[:cap(f.Data)]), slices.Clone(f.Token[:cap(f.Token)])}
		p, _ := frame.Bytes(f)
		q, _ := frame.Bytes(f)
		joined, _ := frame.Join(f, f)
		flip(p)
		if !bytes.Equal(q, unhex(x.code)) || !bytes.Equal(joined, slices.Concat(q, q)) || !same(f, x.f) {
			t.Errorf("the bytes of kind %x share memory", x.f.Kind)
		}
		flip(joined)
		if !bytes.Equal(f.Data[:cap(f.Data)], kept[0]) || !bytes.Equal(f.Token[:cap(f.Token)], kept[1]) {
			t.Errorf("Bytes or Join of kind %x changes its argument", x.f.Kind)
		}
	}
}

func TestMemoryOfAll(t *testing.T) {
	p := unhex("06 00 02 6162 0a 04 02 6364 1a 3031323334353637 02 09 00 01 02 01 00 02 09 00 01 02 01 00")
	before := slices.Clone(p)
	l, e := frame.All(p)
	m, _ := frame.All(p)
	if e != api.OK || len(l) != 5 || !bytes.Equal(p, before) {
		t.Fatalf("All(%x) = %+v, %d", before, l, e)
	}
	flip(p)
	for i := range l {
		kept := frame.Copy(m[(i+1)%len(m)])
		next := frame.Copy(l[(i+1)%len(l)])
		spoil(&l[i])
		if !same(m[(i+1)%len(m)], kept) || !same(l[(i+1)%len(l)], next) {
			t.Errorf("frame %d of All shares memory", i)
		}
		spoil(&l[i])
	}
	if !slices.EqualFunc(l, m, same) {
		t.Error("two results of All share memory")
	}
}
