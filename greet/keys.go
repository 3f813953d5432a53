package greet

import "colonnade/ring"

// secrets are those of both sides for a level.
type secrets struct {
	client [32]byte
	server [32]byte
	known  bool
}

// early returns the first stage of the keys.
func early(secret []byte) [32]byte {
	return ring.Extract(make([]byte, 32), secret)
}

// after returns the stage after this one.
func after(stage [32]byte) [32]byte {
	nothing := ring.Sum()
	salt := label(stage, "derived", nothing[:])
	return ring.Extract(salt[:], make([]byte, 32))
}

// secretsOf returns a stage's secrets, which depend on all messages up to now.
func secretsOf(stage [32]byte, client, server string, said []byte) secrets {
	hash := ring.Sum(said)
	return secrets{label(stage, client, hash[:]), label(stage, server, hash[:]), true}
}

// binder returns the binder of a Hello at the early stage; unbound is all of the Hello before the binder.
func binder(stage [32]byte, unbound []byte) [32]byte {
	nothing := ring.Sum()
	return mac(label(stage, "ext binder", nothing[:]), unbound)
}

// mac returns the MAC by which the owner of a secret confirms what was said.
func mac(secret [32]byte, said []byte) [32]byte {
	key := label(secret, "finished", nil)
	hash := ring.Sum(said)
	return ring.Mac(key[:], hash[:])
}

func label(key [32]byte, name string, context []byte) [32]byte {
	var out [32]byte
	p, _ := ring.Label(key[:], name, context, len(out))
	copy(out[:], p)
	return out
}
