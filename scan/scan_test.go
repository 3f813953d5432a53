package scan_test

import (
	"bytes"
	"math"
	"testing"

	"colonnade/api"
	"colonnade/scan"
)

func TestTaking(t *testing.T) {
	p := []byte{9, 0x25, 0x40, 0x25, 0x7b, 0xbd, 0xc0, 0, 0, 0, 0, 0, 0, 7, 1, 2, 3, 4}
	r := scan.New(p)
	if b := r.Byte(); b != 9 {
		t.Errorf("Byte() = %d", b)
	}
	for _, want := range []uint64{37, 37, 15293, 7} {
		if n := r.Number(); n != want {
			t.Errorf("Number() = %d; want %d", n, want)
		}
	}
	if q := r.Bytes(3); !bytes.Equal(q, []byte{1, 2, 3}) {
		t.Errorf("Bytes(3) = %x", q)
	}
	r.Need(1)
	r.Must(true)
	if !bytes.Equal(r.Left(), []byte{4}) || r.Errno() != api.OK {
		t.Errorf("%x are left, with the error %d", r.Left(), r.Errno())
	}
	if q := r.Bytes(1); !bytes.Equal(q, []byte{4}) || len(r.Left()) != 0 {
		t.Errorf("Bytes(1) = %x, and %x are left", q, r.Left())
	}
	if q := r.Bytes(0); len(q) != 0 || r.Errno() != api.OK {
		t.Errorf("Bytes(0) = %x at the end, with the error %d", q, r.Errno())
	}
}

// The first error stays, and after it there is nothing to take.
func TestErrors(t *testing.T) {
	for _, x := range []struct {
		what string
		p    []byte
		do   func(*scan.Reader)
		want api.Errno
	}{
		{"Byte of nothing", nil, func(r *scan.Reader) { r.Byte() }, api.ErrShort},
		{"Number of nothing", nil, func(r *scan.Reader) { r.Number() }, api.ErrShort},
		{"an incomplete Number", []byte{0x40}, func(r *scan.Reader) { r.Number() }, api.ErrShort},
		{"too many Bytes", []byte{1, 2}, func(r *scan.Reader) { r.Bytes(3) }, api.ErrShort},
		{"more Bytes than can be", []byte{1, 2}, func(r *scan.Reader) { r.Bytes(math.MaxUint64) }, api.ErrShort},
		{"Need", []byte{1, 2}, func(r *scan.Reader) { r.Need(3) }, api.ErrShort},
		{"Must", []byte{1, 2}, func(r *scan.Reader) { r.Must(false) }, api.ErrForm},
		{"Need, then Must", []byte{1, 2}, func(r *scan.Reader) { r.Need(3); r.Must(false) }, api.ErrShort},
		{"Must, then Need", []byte{1, 2}, func(r *scan.Reader) { r.Must(false); r.Need(3) }, api.ErrForm},
		{"Must, then Number", []byte{0x40}, func(r *scan.Reader) { r.Must(false); r.Number() }, api.ErrForm},
	} {
		r := scan.New(x.p)
		x.do(r)
		if r.Errno() != x.want {
			t.Errorf("%s: %d; want %d", x.what, r.Errno(), x.want)
		}
		if r.Byte() != 0 || r.Number() != 0 || len(r.Bytes(1)) != 0 || len(r.Left()) != 0 || r.Errno() != x.want {
			t.Errorf("%s: something is taken after the error, which is %d now", x.what, r.Errno())
		}
	}
}

// What Bytes returns is a copy.
func TestBytesAreApart(t *testing.T) {
	p := []byte{1, 2, 3, 4}
	q := scan.New(p).Bytes(2)
	q = q[:cap(q)]
	for i := range q {
		q[i] = 0xff
	}
	if !bytes.Equal(p, []byte{1, 2, 3, 4}) {
		t.Errorf("the bytes read are %x now", p)
	}
}
