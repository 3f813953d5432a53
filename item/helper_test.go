package item_test

import (
	"bytes"
	"encoding/hex"
	"slices"
	"strings"
	"testing"

	"colonnade/api"
	"colonnade/item"
	"colonnade/vint"
)

const top = api.MaxNum

// unhex reads hexadecimal bytes; spaces between them mean nothing.
func unhex(s string) []byte {
	p, err := hex.DecodeString(strings.ReplaceAll(s, " ", ""))
	if err != nil {
		panic(err)
	}
	return p
}

// text returns n bytes that differ from place to place.
func text(n int) []byte {
	p := make([]byte, n)
	for i := range p {
		p[i] = byte(i*7 + i/251 + 0x61)
	}
	return p
}

// wide returns the encoding of n with size bytes.
func wide(n uint64, size int) []byte {
	p, e := vint.Wide(n, size)
	if e != api.OK {
		panic("there is no such encoding")
	}
	return p
}

func object(group, number uint64, priority byte, data string) api.Object {
	return api.Object{Place: api.Place{Group: group, Object: number}, Priority: priority, Data: []byte(data)}
}

func gram(group, number uint64, priority byte, data string) api.Object {
	o := object(group, number, priority, data)
	o.Gram = true
	return o
}

func same(a, b api.Object) bool {
	return a.Place == b.Place && a.Priority == b.Priority && a.Gram == b.Gram && bytes.Equal(a.Data, b.Data)
}

func equal(a, b []api.Object) bool {
	return slices.EqualFunc(a, b, same)
}

// checkPut checks what Put returns.
func checkPut(t *testing.T, r *item.Reader, p []byte, end bool, want []api.Object, e api.Errno) {
	t.Helper()
	if l, got := r.Put(p, end); got != e || !equal(l, want) {
		t.Errorf("Put(%x, %t) = %+v, %d; want %+v, %d", p, end, l, got, want, e)
	}
}

// checkHead checks the beginning that is known, or that there is none if want is nil.
func checkHead(t *testing.T, r *item.Reader, want *item.Head) {
	t.Helper()
	h, ok := r.Head()
	if want == nil && (ok || h != item.Head{}) {
		t.Errorf("Head() = %+v, %t; want none", h, ok)
	}
	if want != nil && (!ok || h != *want) {
		t.Errorf("Head() = %+v, %t; want %+v", h, ok, *want)
	}
}

func checkHeld(t *testing.T, r *item.Reader, want int) {
	t.Helper()
	if n := r.Held(); n != want {
		t.Errorf("Held() = %d; want %d", n, want)
	}
}

// checkOver checks that a stream that is over stays as it is.
func checkOver(t *testing.T, r *item.Reader) {
	t.Helper()
	h, ok := r.Head()
	checkHeld(t, r, 0)
	for _, p := range [][]byte{nil, {0x10}, unhex("05 01"), unhex("10 01 02 07 00 00"), unhex("7f 00"), text(3000)} {
		checkPut(t, r, p, false, nil, api.ErrOver)
		checkPut(t, r, p, true, nil, api.ErrOver)
	}
	if h2, ok2 := r.Head(); h2 != h || ok2 != ok {
		t.Errorf("Head() = %+v, %t after ErrOver; want %+v, %t", h2, ok2, h, ok)
	}
	checkHeld(t, r, 0)
}
