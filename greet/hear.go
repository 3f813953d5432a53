package greet

import (
	"bytes"

	"colonnade/api"
	"colonnade/ring"
	"colonnade/vint"
)

// The codes of wrong messages.
const (
	unexpected = api.CryptoError + 10
	badForm    = api.CryptoError + 50
	badMAC     = api.CryptoError + 51
	unknown    = api.CryptoError + 115
)

// noLevel is the level of the next step when all are done.
const noLevel = -1

// step is a message of the handshake, as far as it can be expected.
type step struct {
	level int
	kind  byte
}

// hear reads the messages that p completes, and returns the code of the first wrong one.
func (m *Machine) hear(level int, p []byte) uint64 {
	if level < api.Initial || level > api.App {
		return unexpected
	}
	if level == m.next.level {
		p = append(m.partial, p...)
	}
	for len(p) > 0 {
		size, ok := sizeOf(p)
		if ok && size > headSize+maxBody {
			return badForm
		}
		if level != m.next.level {
			return unexpected
		}
		if !ok || size > len(p) {
			break
		}
		if code := m.take(level, p[:size]); code != 0 {
			return code
		}
		p = p[size:]
	}
	m.partial = bytes.Clone(p)
	return 0
}

// take processes a complete message.
func (m *Machine) take(level int, p []byte) uint64 {
	if m.next != (step{level, p[0]}) {
		return unexpected
	}
	switch m.next.kind {
	case hello:
		return m.takeHello(p)
	case answer:
		return m.takeAnswer(p)
	case terms:
		return m.takeTerms(p)
	default:
		return m.takeFinished(p)
	}
}

func (m *Machine) takeHello(p []byte) uint64 {
	h, ok := readHello(p[headSize:])
	if !ok {
		return badForm
	}
	if !ring.Same(h.identity, m.identity) {
		return unknown
	}
	b := binder(m.stage, p[:len(p)-macSize])
	if !ring.Same(h.binder, b[:]) {
		return badMAC
	}
	m.meet(h.params)
	m.note(p)
	m.say(api.Initial, message(answer, m.random[:]))
	m.enterHandshake()
	m.say(api.Handshake, message(terms, vint.Text(m.params)))
	m.finish()
	m.enterApp()
	m.next = step{api.Handshake, finished}
	return 0
}

func (m *Machine) takeAnswer(p []byte) uint64 {
	if len(p) != headSize+randomSize {
		return badForm
	}
	m.note(p)
	m.enterHandshake()
	m.next = step{api.Handshake, terms}
	return 0
}

func (m *Machine) takeTerms(p []byte) uint64 {
	params, rest, e := vint.TakeText(p[headSize:], maxParams)
	if e != api.OK || len(rest) > 0 {
		return badForm
	}
	m.meet(params)
	m.note(p)
	m.next = step{api.Handshake, finished}
	return 0
}

func (m *Machine) takeFinished(p []byte) uint64 {
	if len(p) != headSize+macSize {
		return badForm
	}
	want := mac(m.handshakeSecret(!m.server), m.said)
	if !ring.Same(p[headSize:], want[:]) {
		return badMAC
	}
	m.note(p)
	if !m.server {
		m.enterApp()
		m.finish()
	}
	m.next = step{level: noLevel}
	m.said = nil
	return 0
}

// meet keeps the other side's parameters.
func (m *Machine) meet(params []byte) {
	m.peer = params
	m.met = true
}

// say makes a message of this side one to be sent.
func (m *Machine) say(level int, p []byte) {
	m.note(p)
	m.out[level] = append(m.out[level], p...)
}

// finish says this side's Finished.
func (m *Machine) finish() {
	sum := mac(m.handshakeSecret(m.server), m.said)
	m.say(api.Handshake, message(finished, sum[:]))
}

// note keeps a message of either side for the hashes.
func (m *Machine) note(p []byte) {
	m.said = append(m.said, p...)
}

// handshakeSecret returns the secret of one side for its MAC.
func (m *Machine) handshakeSecret(server bool) [32]byte {
	s := m.secrets[api.Handshake]
	if server {
		return s.server
	}
	return s.client
}

func (m *Machine) enterHandshake() {
	m.stage = after(m.stage)
	m.secrets[api.Handshake] = secretsOf(m.stage, "c hs traffic", "s hs traffic", m.said)
}

func (m *Machine) enterApp() {
	m.stage = after(m.stage)
	m.secrets[api.App] = secretsOf(m.stage, "c ap traffic", "s ap traffic", m.said)
}
