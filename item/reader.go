package item

import (
	"bytes"

	"colonnade/api"
	"colonnade/scan"
	"colonnade/word"
)

// Reader takes apart a stream that arrives piece by piece.
type Reader struct {
	head  Head
	begun bool      // head is complete
	last  api.Place // of the last object
	some  bool      // there was an object
	over  bool      // the stream ended or had an error
	held  []byte    // of the beginning or of an object, incomplete
}

// NewReader returns a reader of a stream of which nothing has arrived.
func NewReader() *Reader {
	return &Reader{}
}

// Put takes more bytes of the stream, with end if it ends after them, and returns the objects that are complete now.
func (r *Reader) Put(p []byte, end bool) (l []api.Object, e api.Errno) {
	if r == nil {
		return nil, api.ErrNone
	}
	if r.over {
		return nil, api.ErrOver
	}
	r.held = append(r.held, p...)
	left := r.held
	defer func() {
		switch x := recover().(type) {
		case nil:
		case api.Errno:
			e = x
		default:
			panic(x)
		}
		e = r.settle(left, e, end)
	}()
	for !r.begun || len(left) > 0 {
		s := scan.NewParser(left, api.ErrShort)
		if r.begun {
			l = append(l, r.object(s))
		} else {
			r.begin(s)
		}
		left = s.Left()
	}
	return l, api.OK
}

// Head returns the beginning of the stream, or false if it is not complete yet.
func (r *Reader) Head() (Head, bool) {
	if r == nil || !r.begun {
		return Head{}, false
	}
	return r.head, true
}

// Held returns the number of bytes that wait for more.
func (r *Reader) Held() int {
	if r == nil {
		return 0
	}
	return len(r.held)
}

// begin takes the beginning of the stream.
func (r *Reader) begin(s *scan.Parser) {
	var h Head
	mark := s.Number()
	s.Must(mark == groupMark || mark == fetchMark)
	h.Fetch = mark == fetchMark
	h.ID = s.Number()
	if !h.Fetch {
		h.Group = s.Number()
		h.Priority = s.Byte()
	}
	r.head, r.begun = h, true
}

// object takes an object. One that isn't after the last is wrong even if its data are missing.
func (r *Reader) object(s *scan.Parser) api.Object {
	var o api.Object
	if r.head.Fetch {
		o.Group = s.Number()
		o.Object = s.Number()
		o.Priority = s.Byte()
	} else {
		o.Group = r.head.Group
		o.Object = s.Number()
		o.Priority = r.head.Priority
	}
	s.Must(!r.some || word.Less(r.last, o.Place))
	o.Data = s.Text(api.MaxObject)
	r.last, r.some = o.Place, true
	return o
}

// settle keeps what is left after the complete elements, and returns the error of Put if e is that of the parsing. Missing bytes are one only if the stream ends.
func (r *Reader) settle(left []byte, e api.Errno, end bool) api.Errno {
	switch {
	case e == api.ErrShort && !end:
		r.keep(left)
		return api.OK
	case e == api.ErrShort:
		e = api.ErrForm
	}
	r.over = end || e != api.OK
	r.held = nil
	return e
}

// keep holds the bytes that are left, but not the memory of those before them.
func (r *Reader) keep(left []byte) {
	if len(left) < len(r.held) {
		left = bytes.Clone(left)
	}
	r.held = left
}
