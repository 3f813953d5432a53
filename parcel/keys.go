package parcel

import "colonnade/ring"

// firstSalt is what RFC 9001, 5.2 derives the initial secrets with.
const firstSalt = "\x38\x76\x2c\xf7\xf5\x59\x34\xb3\x4d\x17\x9a\xe6\xa4\xc8\x0c\xad\xcc\xbb\x7f\x0a"

// Keys protect the packets of one direction.
type Keys struct {
	Key   [32]byte
	Nonce [12]byte
	Mask  [32]byte
}

// Draw returns the keys of the secret.
func Draw(secret [32]byte) Keys {
	return Keys{
		Key:   [32]byte(label(secret, "quic key", 32)),
		Nonce: [12]byte(label(secret, "quic iv", 12)),
		Mask:  [32]byte(label(secret, "quic hp", 32)),
	}
}

// Next returns the secret after this one.
func Next(secret [32]byte) [32]byte {
	return [32]byte(label(secret, "quic ku", 32))
}

// Turn returns the keys of the secret with the mask of k.
func Turn(k Keys, secret [32]byte) Keys {
	next := Draw(secret)
	next.Mask = k.Mask
	return next
}

// First returns the initial secrets of the client and of the server for the name that the client uses first.
func First(name []byte) ([32]byte, [32]byte) {
	initial := ring.Extract([]byte(firstSalt), name)
	return [32]byte(label(initial, "client in", 32)), [32]byte(label(initial, "server in", 32))
}

// label returns n bytes derived from the secret. The labels and lengths of this package have no error.
func label(secret [32]byte, name string, n int) []byte {
	p, _ := ring.Label(secret[:], name, nil, n)
	return p
}
