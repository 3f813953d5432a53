package salt_test

import (
	"bytes"
	"slices"
	"testing"

	"colonnade/api"
	"colonnade/salt"
)

const spare = 90

// roomy returns n bytes with spare capacity, and the whole of it.
func roomy(n int) ([]byte, []byte) {
	whole := pattern(n + spare)
	return whole[:n], whole
}

// spoil overwrites a slice with its spare capacity.
func spoil(p []byte) {
	p = p[:cap(p)]
	for i := range p {
		p[i] ^= 0xff
	}
}

// Arguments stay as they are with their spare capacity, whether a call succeeds or not.
func TestArgumentsStay(t *testing.T) {
	key, nonce := rising(4), nonce12("05")
	for _, n := range edges {
		plain, wholePlain := roomy(n)
		beside, wholeBeside := roomy(n + 1)
		closed := append(salt.Close(key, nonce, plain, beside), pattern(spare)...)
		wholeClosed := slices.Clone(closed)
		p := closed[:n+16]

		salt.Tag(key, plain)
		if _, e := salt.Open(key, nonce, p, beside); e != api.OK {
			t.Errorf("Open: %d", e)
		}
		salt.Open(key, nonce, p, beside[:n])
		salt.Open(key, nonce, p[:n], beside)
		if !bytes.Equal(wholePlain, pattern(n+spare)) || !bytes.Equal(wholeBeside, pattern(n+1+spare)) || !bytes.Equal(closed, wholeClosed) {
			t.Errorf("an argument of %d bytes was changed", n)
		}
	}
}

// What is closed and what is beside it may be the same memory.
func TestSharedArguments(t *testing.T) {
	key, nonce := rising(5), nonce12("06")
	whole := pattern(200)
	p := salt.Close(key, nonce, whole[10:150], whole[:100])
	if !bytes.Equal(p, closeOf(key, nonce, whole[10:150], whole[:100])) || !bytes.Equal(whole, pattern(200)) {
		t.Error("Close with arguments that share memory is wrong")
	}
}

// No result shares memory with an argument or with another result, not even in its spare capacity.
func TestResultsAreApart(t *testing.T) {
	key, nonce := rising(6), nonce12("07")
	for _, n := range []int{0, 1, 16, 63, 64, 65, 200} {
		plain, wholePlain := roomy(n)
		beside, wholeBeside := roomy(n + 3)
		closed := salt.Close(key, nonce, plain, beside)
		p := append(slices.Clone(closed), pattern(spare)...)
		opened, _ := salt.Open(key, nonce, p[:n+16], beside)
		again, _ := salt.Open(key, nonce, p[:n+16], beside)
		stream, _ := salt.Stream(key, nonce, 1, n)
		stream2, _ := salt.Stream(key, nonce, 1, n)
		all := [][]byte{wholePlain, wholeBeside, p, closed, salt.Close(key, nonce, plain, beside), opened, again, stream, stream2}
		for i, x := range all {
			kept := make([][]byte, len(all))
			for j, y := range all {
				kept[j] = slices.Clone(y[:cap(y)])
			}
			spoil(x)
			for j, y := range all {
				if i != j && !bytes.Equal(y[:cap(y)], kept[j]) {
					t.Errorf("with %d bytes, %d and %d share memory", n, i, j)
				}
			}
		}
	}
}

// What a call answers depends on its arguments, not on the calls before it or on what became of their results.
func TestCallsAreApart(t *testing.T) {
	key, nonce := rising(7), nonce12("08")
	want := closeOf(key, nonce, pattern(70), pattern(9))
	for i := range 5 {
		p := salt.Close(key, nonce, pattern(70), pattern(9))
		if !bytes.Equal(p, want) {
			t.Fatalf("call %d differs", i)
		}
		q, e := salt.Open(key, nonce, p, pattern(9))
		if e != api.OK || !bytes.Equal(q, pattern(70)) {
			t.Fatalf("call %d of Open differs", i)
		}
		spoil(p)
		spoil(q)
		salt.Open(key, nonce, p, nil)
		s, _ := salt.Stream(key, nonce, uint32(i), 100)
		if !bytes.Equal(s, streamOf(key, nonce, uint32(i), 100)) {
			t.Fatalf("call %d of Stream differs", i)
		}
		spoil(s)
		salt.Tag(rising(byte(i)), want)
		salt.Mask(rising(byte(i)), [16]byte{})
	}
}
