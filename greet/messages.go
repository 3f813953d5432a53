package greet

import (
	"slices"

	"colonnade/api"
	"colonnade/vint"
)

// The kinds of messages.
const (
	hello    = 1
	answer   = 2
	terms    = 8
	finished = 20
)

const (
	headSize   = 4 // the kind, and the length of the body
	maxBody    = 1024
	randomSize = 32
	macSize    = 32
)

// helloBody is what the server needs of the body of a Hello.
type helloBody struct {
	identity []byte
	params   []byte
	binder   []byte
}

func message(kind byte, body []byte) []byte {
	n := len(body)
	return append([]byte{kind, byte(n >> 16), byte(n >> 8), byte(n)}, body...)
}

// sizeOf returns the length of the message at the beginning of p, or false if it is not complete itself.
func sizeOf(p []byte) (int, bool) {
	if len(p) < headSize {
		return 0, false
	}
	return headSize + (int(p[1])<<16 | int(p[2])<<8 | int(p[3])), true
}

// hello returns the client's Hello.
func (m *Machine) hello() []byte {
	p := message(hello, slices.Concat(m.random[:], vint.Text(m.identity), vint.Text(m.params), make([]byte, macSize)))
	at := len(p) - macSize
	b := binder(m.stage, p[:at])
	copy(p[at:], b[:])
	return p
}

// readHello takes the body of a Hello apart, or returns false if it has another form.
func readHello(body []byte) (helloBody, bool) {
	if len(body) < randomSize {
		return helloBody{}, false
	}
	identity, rest, e := vint.TakeText(body[randomSize:], maxIdentity)
	if e != api.OK {
		return helloBody{}, false
	}
	params, rest, e := vint.TakeText(rest, maxParams)
	if e != api.OK || len(rest) != macSize {
		return helloBody{}, false
	}
	return helloBody{identity, params, rest}, true
}
