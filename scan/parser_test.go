package scan_test

import (
	"bytes"
	"math"
	"testing"

	"colonnade/api"
	"colonnade/scan"
)

// abandoned returns the error with which do abandons the parsing of p, or OK if it doesn't.
func abandoned(p []byte, lack api.Errno, do func(*scan.Parser)) (e api.Errno) {
	defer func() {
		if x := recover(); x != nil {
			e = x.(api.Errno)
		}
	}()
	do(scan.NewParser(p, lack))
	return api.OK
}

func TestParser(t *testing.T) {
	e := abandoned([]byte{9, 0x7b, 0xbd, 1, 2, 0x40, 0x02, 3, 4, 0, 5}, api.ErrState, func(s *scan.Parser) {
		s.Must(true)
		if b, n, p := s.Byte(), s.Number(), s.Bytes(2); b != 9 || n != 15293 || !bytes.Equal(p, []byte{1, 2}) {
			t.Errorf("taken are %d, %d, %x", b, n, p)
		}
		if p, q := s.Text(2), s.Text(0); !bytes.Equal(p, []byte{3, 4}) || len(q) != 0 {
			t.Errorf("the texts are %x, %x", p, q)
		}
		if !bytes.Equal(s.Left(), []byte{5}) {
			t.Errorf("%x are left", s.Left())
		}
		if p := s.Bytes(1); !bytes.Equal(p, []byte{5}) || len(s.Left()) != 0 {
			t.Errorf("the last is %x, and %x are left", p, s.Left())
		}
	})
	if e != api.OK {
		t.Errorf("the parsing is abandoned: %d", e)
	}
}

func TestAbandoning(t *testing.T) {
	for _, x := range []struct {
		what string
		p    []byte
		do   func(*scan.Parser)
		lack bool
	}{
		{"Byte of nothing", nil, func(s *scan.Parser) { s.Byte() }, true},
		{"Number of nothing", nil, func(s *scan.Parser) { s.Number() }, true},
		{"an incomplete Number", []byte{0x40}, func(s *scan.Parser) { s.Number() }, true},
		{"too many Bytes", []byte{1, 2}, func(s *scan.Parser) { s.Bytes(3) }, true},
		{"more Bytes than can be", []byte{1, 2}, func(s *scan.Parser) { s.Bytes(math.MaxUint64) }, true},
		{"Text of nothing", nil, func(s *scan.Parser) { s.Text(9) }, true},
		{"an incomplete Text", []byte{2, 1}, func(s *scan.Parser) { s.Text(2) }, true},
		{"a Text that is too long", []byte{2, 1, 1}, func(s *scan.Parser) { s.Text(1) }, false},
		{"a Text that is too long and incomplete", []byte{2, 1}, func(s *scan.Parser) { s.Text(1) }, false},
		{"Must", []byte{1}, func(s *scan.Parser) { s.Must(false) }, false},
	} {
		for _, lack := range []api.Errno{api.ErrShort, api.ErrForm, api.ErrState} {
			want := api.ErrForm
			if x.lack {
				want = lack
			}
			if e := abandoned(x.p, lack, x.do); e != want {
				t.Errorf("%s: %d; want %d", x.what, e, want)
			}
		}
	}
}
