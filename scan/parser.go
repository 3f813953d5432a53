package scan

import "colonnade/api"

// Parser takes as Reader does, but abandons the parsing at the first error by a panic with it, so that nothing has to be checked between what is taken. The value is an api.Errno; the exported function that parses recovers it.
type Parser struct {
	r    *Reader
	lack api.Errno
}

// NewParser returns a parser of p, which must not change while the parser is in use. If bytes are missing the error is lack.
func NewParser(p []byte, lack api.Errno) *Parser {
	return &Parser{r: New(p), lack: lack}
}

// Byte takes one byte.
func (s *Parser) Byte() byte {
	b := s.r.Byte()
	s.check()
	return b
}

// Number takes a number in any of its encodings.
func (s *Parser) Number() uint64 {
	n := s.r.Number()
	s.check()
	return n
}

// Bytes takes n bytes and returns a copy of them.
func (s *Parser) Bytes(n uint64) []byte {
	p := s.r.Bytes(n)
	s.check()
	return p
}

// Text takes a number and as many bytes, and returns a copy of them. More than most are ErrForm, even if they are missing.
func (s *Parser) Text(most uint64) []byte {
	n := s.Number()
	s.Must(n <= most)
	return s.Bytes(n)
}

// Must abandons the parsing with ErrForm if ok is false.
func (s *Parser) Must(ok bool) {
	s.r.Must(ok)
	s.check()
}

// Left returns the bytes that were not taken, not copied.
func (s *Parser) Left() []byte {
	return s.r.Left()
}

func (s *Parser) check() {
	switch e := s.r.Errno(); e {
	case api.OK:
	case api.ErrShort:
		panic(s.lack)
	default:
		panic(e)
	}
}
