package head_test

import (
	"math"
	"math/big"
	"math/rand/v2"
	"testing"

	"colonnade/api"
	"colonnade/head"
)

// numbers are packet numbers, and numbers that are none, at the ends of what matters.
func numbers() []uint64 {
	l := []uint64{0, 1, 2, 3, 100, 0xabe8b3, 0xac5c02, 0xace8fe, 0xa82f30ea, 0xa82f9b32}
	for _, bit := range []int{7, 8, 15, 16, 23, 24, 31, 32, 33, 40, 61, 62, 63} {
		n := uint64(1) << bit
		l = append(l, n-3, n-2, n-1, n, n+1, n+2)
	}
	return append(l, 1<<62-1<<8, 1<<62-1<<16, 1<<62-1<<31, 1<<62-1<<32, 1<<62-1<<32-1, math.MaxUint64-1, math.MaxUint64)
}

func bigOf(n uint64) *big.Int {
	return new(big.Int).SetUint64(n)
}

// needOf works Need out with numbers that can't wrap round.
func needOf(pn, acked uint64, some bool) int {
	apart := new(big.Int).Add(bigOf(pn), big.NewInt(1))
	if some {
		apart.Sub(bigOf(pn), bigOf(acked))
	}
	apart.Lsh(apart, 1)
	for size := 1; size < 4; size++ {
		if apart.Cmp(new(big.Int).Lsh(big.NewInt(1), uint(8*size))) <= 0 {
			return size
		}
	}
	return 4
}

func TestNeed(t *testing.T) {
	for _, x := range []struct {
		pn, acked uint64
		some      bool
		want      int
	}{
		{0xac5c02, 0xabe8b3, true, 2},
		{0xace8fe, 0xabe8b3, true, 3},
		{0, 0, false, 1},
		{127, 0, false, 1},
		{128, 0, false, 2},
		{128, 0, true, 1},
		{129, 0, true, 2},
		{1<<15 - 1, 0, false, 2},
		{1 << 15, 0, false, 3},
		{1 << 15, 0, true, 2},
		{1<<15 + 1, 0, true, 3},
		{1<<23 - 1, 99, false, 3},
		{1 << 23, 99, false, 4},
		{1 << 23, 0, true, 3},
		{1<<23 + 1, 0, true, 4},
		{1<<31 - 1, 0, false, 4},
		{1 << 40, 0, true, 4},
		{1 << 40, 1 << 40, true, 1},
		{1 << 40, 1<<40 + 1, true, 1},
		{0, math.MaxUint64, true, 1},
		{math.MaxUint64, 0, false, 4},
		{math.MaxUint64, 0, true, 4},
		{1 << 63, 0, true, 4},
		{1<<63 + 5, 0, false, 4},
	} {
		if n := head.Need(x.pn, x.acked, x.some); n != x.want {
			t.Errorf("Need(%x, %x, %t) = %d; want %d", x.pn, x.acked, x.some, n, x.want)
		}
	}
	for _, pn := range numbers() {
		for _, acked := range numbers() {
			for _, some := range []bool{false, true} {
				if n := head.Need(pn, acked, some); n != needOf(pn, acked, some) {
					t.Errorf("Need(%x, %x, %t) = %d; want %d", pn, acked, some, n, needOf(pn, acked, some))
				}
			}
		}
	}
}

func TestCut(t *testing.T) {
	const pn = 0xfedcba9876543210
	for _, x := range []struct {
		size int
		want uint64
	}{
		{1, 0x10}, {2, 0x3210}, {3, 0x543210}, {4, 0x76543210},
		{0, 0x10}, {-1, 0x10}, {math.MinInt, 0x10},
		{5, 0x76543210}, {8, 0x76543210}, {64, 0x76543210}, {1 << 32, 0x76543210}, {math.MaxInt, 0x76543210},
	} {
		if n := head.Cut(pn, x.size); n != x.want {
			t.Errorf("Cut(%x, %d) = %x; want %x", uint64(pn), x.size, n, x.want)
		}
	}
	if n := head.Cut(0x12345, 2); n != 0x2345 {
		t.Errorf("Cut(12345, 2) = %x", n)
	}
}

// growOf works Grow out as the document puts it, with numbers that can't wrap round.
func growOf(largest uint64, some bool, cut uint64, size int) uint64 {
	w := new(big.Int).Lsh(big.NewInt(1), uint(8*min(max(size, 1), 4)))
	half := new(big.Int).Rsh(w, 1)
	next := new(big.Int)
	if some {
		next.Add(bigOf(min(largest, api.MaxNum)), big.NewInt(1))
	}
	end := new(big.Int).Lsh(big.NewInt(1), 62)
	n := new(big.Int).Mul(new(big.Int).Div(next, w), w)
	n.Add(n, new(big.Int).Mod(bigOf(cut), w))
	if new(big.Int).Add(n, half).Cmp(next) <= 0 && n.Cmp(new(big.Int).Sub(end, w)) < 0 {
		return n.Add(n, w).Uint64()
	}
	if n.Cmp(new(big.Int).Add(next, half)) > 0 && n.Cmp(w) >= 0 {
		return n.Sub(n, w).Uint64()
	}
	return min(n.Uint64(), api.MaxNum)
}

func TestGrow(t *testing.T) {
	for _, x := range []struct {
		largest uint64
		some    bool
		cut     uint64
		size    int
		want    uint64
	}{
		{0xa82f30ea, true, 0x9b32, 2, 0xa82f9b32},
		{0, false, 0, 1, 0},
		{0, false, 0xff, 1, 0xff},
		{77, false, 5, 1, 5},
		{0, true, 0, 1, 0},
		{0, true, 0xff, 1, 0xff},
		{126, true, 0, 1, 0},
		{127, true, 0, 1, 256},
		{128, true, 0, 1, 256},
		{254, true, 0x80, 1, 128},
		{255, true, 0x80, 1, 384},
		{255, true, 0x81, 1, 129},
		{256, true, 0x81, 1, 385},
		{256, true, 0x82, 1, 130},
		{0xffff, true, 0, 1, 0x10000},
		{0xffff, true, 0xff, 1, 0xffff},
		{0xfffe, true, 0x7f, 1, 0x1007f},
		{0x10000, true, 0xf0, 4, 0xf0},
		{1 << 31, true, 0, 4, 1 << 32},
		{1<<31 - 2, true, 0, 4, 0},
		{1<<31 - 1, true, 0, 4, 1 << 32},
		{api.MaxNum, true, 0xff, 1, api.MaxNum},
		{api.MaxNum, true, 0x81, 1, api.MaxNum - 0x7e},
		{api.MaxNum, true, 0, 1, api.MaxNum},
		{api.MaxNum, true, 0x80, 1, api.MaxNum},
		{api.MaxNum - 1, true, 0, 1, api.MaxNum &^ 0xff},
		{api.MaxNum - 1, true, 0x40, 1, api.MaxNum&^0xff + 0x40},
		{math.MaxUint64, true, 0xff, 1, api.MaxNum},
		{math.MaxUint64, true, 0xfe, 1, api.MaxNum - 1},
		{math.MaxUint64, true, 0xfffffffe, 4, api.MaxNum - 1},
		{math.MaxUint64, false, 7, 4, 7},
		{0x1234, true, 0xfedcba9876543240, 1, 0x1240},
	} {
		if n := head.Grow(x.largest, x.some, x.cut, x.size); n != x.want {
			t.Errorf("Grow(%x, %t, %x, %d) = %x; want %x", x.largest, x.some, x.cut, x.size, n, x.want)
		}
	}
}

func TestGrowAgainstTheDocument(t *testing.T) {
	sizes := []int{math.MinInt, -1, 0, 1, 2, 3, 4, 5, 8, math.MaxInt}
	random := rand.New(rand.NewPCG(4, 2))
	for _, size := range sizes {
		for _, largest := range numbers() {
			for _, cut := range append(numbers(), random.Uint64()) {
				for _, some := range []bool{false, true} {
					n, want := head.Grow(largest, some, cut, size), growOf(largest, some, cut, size)
					if n != want {
						t.Errorf("Grow(%x, %t, %x, %d) = %x; want %x", largest, some, cut, size, n, want)
					}
				}
			}
		}
	}
}

// Grow finds each number that Need's size was made for, whatever was received since acked.
func TestGrowOfNeed(t *testing.T) {
	random := rand.New(rand.NewPCG(4, 3))
	check := func(pn, acked uint64, some bool, largest uint64) {
		t.Helper()
		size := head.Need(pn, acked, some)
		if n := head.Grow(largest, some, head.Cut(pn, size), size); n != pn {
			t.Errorf("%x in %d bytes after %x (acked %x) grows to %x", pn, size, largest, acked, n)
		}
	}
	ways := []uint64{1, 2, 127, 128, 129, 255, 256, 257, 1<<15 - 1, 1 << 15, 1<<15 + 1, 1 << 16, 1<<23 - 1, 1 << 23, 1<<23 + 1, 1 << 24, 1<<30 + 5, 1<<31 - 2, 1<<31 - 1}
	for range 300 {
		ways = append(ways, 1+random.Uint64N(1<<(1+random.IntN(31))-1))
	}
	bases := []uint64{0, 1, 200, 0xff80, 1 << 32, 1<<40 - 1, 1<<62 - 1<<32}
	for _, way := range ways {
		for _, acked := range append(bases, api.MaxNum-way, random.Uint64N(api.MaxNum-1<<31)) {
			pn := acked + way
			for _, largest := range []uint64{acked, pn - 1, acked + way/2, acked + random.Uint64N(way)} {
				check(pn, acked, true, largest)
			}
		}
		// Nothing was acknowledged: nothing was received, or anything below the number.
		pn := way - 1
		check(pn, 0, false, 0)
		size := head.Need(pn, 0, false)
		for _, largest := range []uint64{0, pn / 2, pn - 1} {
			if n := head.Grow(largest, true, head.Cut(pn, size), size); largest < pn && n != pn {
				t.Errorf("%x in %d bytes after %x (none acked) grows to %x", pn, size, largest, n)
			}
		}
	}
}
