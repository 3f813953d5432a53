package vint_test

import (
	"bytes"
	"encoding/binary"
	"math"
	"math/rand/v2"
	"slices"
	"testing"

	"colonnade/api"
	"colonnade/vint"
)

// ends are the numbers at the ends of each length, with their minimal encodings.
var ends = []struct {
	n    uint64
	code []byte
}{
	{0, []byte{0x00}},
	{1, []byte{0x01}},
	{37, []byte{0x25}},
	{63, []byte{0x3f}},
	{64, []byte{0x40, 0x40}},
	{15293, []byte{0x7b, 0xbd}},
	{16383, []byte{0x7f, 0xff}},
	{16384, []byte{0x80, 0x00, 0x40, 0x00}},
	{494878333, []byte{0x9d, 0x7f, 0x3e, 0x7d}},
	{1<<30 - 1, []byte{0xbf, 0xff, 0xff, 0xff}},
	{1 << 30, []byte{0xc0, 0x00, 0x00, 0x00, 0x40, 0x00, 0x00, 0x00}},
	{151288809941952652, []byte{0xc2, 0x19, 0x7c, 0x5e, 0xff, 0x14, 0xe8, 0x8c}},
	{api.MaxNum - 1, []byte{0xff, 0xff, 0xff, 0xff, 0xff, 0xff, 0xff, 0xfe}},
	{api.MaxNum, []byte{0xff, 0xff, 0xff, 0xff, 0xff, 0xff, 0xff, 0xff}},
}

// tooLarge are numbers without an encoding.
var tooLarge = []uint64{api.MaxNum + 1, api.MaxNum + 2, 1 << 63, math.MaxUint64}

// code returns the encoding of n with size bytes, worked out in another way than the program's.
func code(n uint64, size int) []byte {
	p := binary.BigEndian.AppendUint64(nil, n)[8-size:]
	p[0] |= map[int]byte{1: 0x00, 2: 0x40, 4: 0x80, 8: 0xc0}[size]
	return p
}

func TestNum(t *testing.T) {
	for _, x := range ends {
		if p, e := vint.Num(x.n); e != api.OK || !bytes.Equal(p, x.code) {
			t.Errorf("Num(%d) = %x, %d; want %x", x.n, p, e, x.code)
		}
	}
	for _, n := range tooLarge {
		if p, e := vint.Num(n); e != api.ErrLong || len(p) != 0 {
			t.Errorf("Num(%d) = %x, %d; want ErrLong", n, p, e)
		}
	}
}

func TestSize(t *testing.T) {
	for _, x := range ends {
		if size := vint.Size(x.n); size != len(x.code) {
			t.Errorf("Size(%d) = %d; want %d", x.n, size, len(x.code))
		}
	}
	for _, n := range tooLarge {
		if size := vint.Size(n); size != 0 {
			t.Errorf("Size(%d) = %d; want 0", n, size)
		}
	}
}

func TestWide(t *testing.T) {
	for _, size := range []int{1, 2, 4, 8} {
		most := uint64(1)<<(8*size-2) - 1
		for _, n := range []uint64{0, 1, 37, most / 2, most - 1, most} {
			if p, e := vint.Wide(n, size); e != api.OK || !bytes.Equal(p, code(n, size)) {
				t.Errorf("Wide(%d, %d) = %x, %d; want %x", n, size, p, e, code(n, size))
			}
		}
		for _, n := range []uint64{most + 1, most + 2, 1 << 62, 1 << 63, math.MaxUint64} {
			if p, e := vint.Wide(n, size); e != api.ErrLong || len(p) != 0 {
				t.Errorf("Wide(%d, %d) = %x, %d; want ErrLong", n, size, p, e)
			}
		}
	}
	if p, e := vint.Wide(37, 2); e != api.OK || !bytes.Equal(p, []byte{0x40, 0x25}) {
		t.Errorf("Wide(37, 2) = %x, %d", p, e)
	}
}

// The size is checked before the number, so no number yields another error with a wrong size.
func TestWideOfWrongSize(t *testing.T) {
	sizes := []int{math.MinInt, math.MinInt32, -8, -4, -2, -1, 0, 3, 5, 6, 7, 9, 10, 16, 32, 64, 1 << 32, 1<<32 + 1, math.MaxInt}
	for _, size := range sizes {
		for _, n := range []uint64{0, 5, api.MaxNum, api.MaxNum + 1, math.MaxUint64} {
			if p, e := vint.Wide(n, size); e != api.ErrArg || len(p) != 0 {
				t.Errorf("Wide(%d, %d) = %x, %d; want ErrArg", n, size, p, e)
			}
		}
	}
}

func TestTake(t *testing.T) {
	for _, x := range ends {
		for _, size := range []int{1, 2, 4, 8} {
			if size < len(x.code) {
				continue
			}
			for _, rest := range [][]byte{nil, {7}, {0xff, 0x00, 0x40}} {
				p := append(code(x.n, size), rest...)
				n, after, e := vint.Take(p)
				if n != x.n || !bytes.Equal(after, rest) || e != api.OK {
					t.Errorf("Take(%x) = %d, %x, %d; want %d, %x", p, n, after, e, x.n, rest)
				}
			}
		}
	}
}

func TestTakeOfIncomplete(t *testing.T) {
	for _, p := range incomplete() {
		if n, rest, e := vint.Take(p); n != 0 || len(rest) != 0 || e != api.ErrShort {
			t.Errorf("Take(%x) = %d, %x, %d; want ErrShort", p, n, rest, e)
		}
	}
}

// incomplete returns beginnings of encodings of every length.
func incomplete() [][]byte {
	out := [][]byte{nil, {}}
	for _, size := range []int{2, 4, 8} {
		for _, n := range []uint64{0, uint64(1)<<(8*size-2) - 1} {
			for short := 1; short < size; short++ {
				out = append(out, code(n, size)[:short:short])
			}
		}
	}
	return out
}

func TestLeast(t *testing.T) {
	for _, x := range ends {
		for _, size := range []int{1, 2, 4, 8} {
			if size < len(x.code) {
				continue
			}
			for _, rest := range [][]byte{nil, {9}, {0xff, 0xff}} {
				p := append(code(x.n, size), rest...)
				if least := vint.Least(p); least != (size == len(x.code)) {
					t.Errorf("Least(%x) = %t", p, least)
				}
			}
		}
	}
	for _, p := range incomplete() {
		if vint.Least(p) {
			t.Errorf("Least(%x) = true", p)
		}
	}
}

func TestText(t *testing.T) {
	for _, n := range []int{0, 1, 2, 63, 64, 65, 16383, 16384, 16385} {
		text := bytes.Repeat([]byte{0xa5}, n)
		want := append(code(uint64(n), vint.Size(uint64(n))), text...)
		p := vint.Text(text)
		if !bytes.Equal(p, want) {
			t.Errorf("Text of %d bytes is wrong", n)
		}
		back, rest, e := vint.TakeText(append(p, 1, 2), n)
		if !bytes.Equal(back, text) || !bytes.Equal(rest, []byte{1, 2}) || e != api.OK {
			t.Errorf("TakeText of Text of %d bytes: %d bytes, %x, %d", n, len(back), rest, e)
		}
	}
	if p := vint.Text(nil); !bytes.Equal(p, []byte{0}) {
		t.Errorf("Text(nil) = %x", p)
	}
}

func TestTakeText(t *testing.T) {
	cases := []struct {
		p          []byte
		most       int
		text, rest []byte
		e          api.Errno
	}{
		{[]byte{0}, 0, nil, nil, api.OK},
		{[]byte{0, 5}, 0, nil, []byte{5}, api.OK},
		{[]byte{2, 'a', 'b'}, 2, []byte("ab"), nil, api.OK},
		{[]byte{2, 'a', 'b', 9}, 2, []byte("ab"), []byte{9}, api.OK},
		{[]byte{2, 'a', 'b', 9}, math.MaxInt, []byte("ab"), []byte{9}, api.OK},
		{[]byte{0x40, 2, 'a', 'b', 9}, 3, []byte("ab"), []byte{9}, api.OK}, // the length needn't be minimal
		{[]byte{0xc0, 0, 0, 0, 0, 0, 0, 1, 'a'}, 1, []byte("a"), nil, api.OK},
		// Too long.
		{[]byte{2, 'a', 'b'}, 1, nil, nil, api.ErrLong},
		{[]byte{1, 'a'}, 0, nil, nil, api.ErrLong},
		{[]byte{1, 'a'}, -1, nil, nil, api.ErrLong},
		{[]byte{0}, -1, nil, nil, api.ErrLong},
		{[]byte{0}, math.MinInt, nil, nil, api.ErrLong},
		{[]byte{0xff, 0xff, 0xff, 0xff, 0xff, 0xff, 0xff, 0xff}, math.MaxInt32, nil, nil, api.ErrLong},
		// Incomplete.
		{nil, 5, nil, nil, api.ErrShort},
		{[]byte{0x40}, 5, nil, nil, api.ErrShort},
		{[]byte{0xc0, 0, 0, 0, 0, 0, 0}, 5, nil, nil, api.ErrShort},
		{[]byte{1}, 5, nil, nil, api.ErrShort},
		{[]byte{2, 'a'}, 2, nil, nil, api.ErrShort},
		{[]byte{0xff, 0xff, 0xff, 0xff, 0xff, 0xff, 0xff, 0xff}, math.MaxInt, nil, nil, api.ErrShort},
		// In order: the length itself, then the bound, then the bytes.
		{nil, -1, nil, nil, api.ErrShort},
		{[]byte{0x40}, -1, nil, nil, api.ErrShort},
		{[]byte{3, 'a'}, 2, nil, nil, api.ErrLong},
		{[]byte{1}, 0, nil, nil, api.ErrLong},
	}
	for _, x := range cases {
		text, rest, e := vint.TakeText(x.p, x.most)
		if !bytes.Equal(text, x.text) || !bytes.Equal(rest, x.rest) || e != x.e {
			t.Errorf("TakeText(%x, %d) = %x, %x, %d; want %x, %x, %d", x.p, x.most, text, rest, e, x.text, x.rest, x.e)
		}
	}
}

// Numbers of every length of bits go there and back, and have one minimal encoding.
func TestThereAndBack(t *testing.T) {
	random := rand.New(rand.NewPCG(1, 2))
	for i := range 20000 {
		n := random.Uint64() >> (2 + i%62)
		p, e := vint.Num(n)
		if e != api.OK || len(p) != vint.Size(n) || !vint.Least(p) {
			t.Fatalf("Num(%d) = %x, %d", n, p, e)
		}
		if m, rest, e := vint.Take(p); m != n || len(rest) != 0 || e != api.OK {
			t.Fatalf("Take(%x) = %d, %x, %d; want %d", p, m, rest, e, n)
		}
	}
}

// Calls with any bytes end without a panic, and answer the same when asked again.
func TestAnyBytes(t *testing.T) {
	random := rand.New(rand.NewPCG(3, 4))
	for range 20000 {
		p := make([]byte, random.IntN(12))
		for i := range p {
			p[i] = byte(random.Uint32())
		}
		most := random.IntN(20) - 4
		n, rest, e := vint.Take(p)
		n2, rest2, e2 := vint.Take(p)
		if n != n2 || !bytes.Equal(rest, rest2) || e != e2 || vint.Least(p) != vint.Least(p) {
			t.Fatalf("Take(%x) differs", p)
		}
		text, rest, e := vint.TakeText(p, most)
		text2, rest2, e2 := vint.TakeText(p, most)
		if !bytes.Equal(text, text2) || !bytes.Equal(rest, rest2) || e != e2 {
			t.Fatalf("TakeText(%x, %d) differs", p, most)
		}
	}
}

// spoil overwrites a slice with its spare capacity.
func spoil(p []byte) {
	p = p[:cap(p)]
	for i := range p {
		p[i] ^= 0xff
	}
}

// Arguments stay as they are with their spare capacity, and no result shares memory with one or with another result.
func TestMemory(t *testing.T) {
	whole := []byte{2, 'a', 'b', 'c', 'd', 0x55, 0x55, 0x55}
	kept := slices.Clone(whole)
	p := whole[:5]

	_, rest, _ := vint.Take(p)
	text, after, _ := vint.TakeText(p, 2)
	coded := vint.Text(p)
	first, _ := vint.Num(37)
	second, _ := vint.Num(37)
	none, _, _ := vint.TakeText([]byte{0, 1, 2}[:1], 0)
	if !bytes.Equal(whole, kept) {
		t.Fatalf("an argument was changed: %x", whole)
	}
	results := [][]byte{rest, text, after, coded, first, second, none}
	copies := make([][]byte, len(results))
	for i, x := range results {
		copies[i] = slices.Clone(x)
	}
	spoil(whole)
	for i, x := range results {
		if !bytes.Equal(x, copies[i]) {
			t.Errorf("result %d shares memory with an argument", i)
		}
	}
	spoiled := slices.Clone(whole)
	for i, x := range results {
		spoil(x)
		for j, y := range results[i+1:] {
			if !bytes.Equal(y, copies[i+1+j]) {
				t.Errorf("results %d and %d share memory", i, i+1+j)
			}
		}
	}
	if !bytes.Equal(whole, spoiled) {
		t.Error("a result shares memory with an argument")
	}
	if again, _ := vint.Num(37); !bytes.Equal(again, []byte{0x25}) {
		t.Error("a result shares memory with a later one")
	}
}
