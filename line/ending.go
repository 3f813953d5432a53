package line

import (
	"slices"

	"colonnade/api"
	"colonnade/frame"
)

// ending is how a connection was closed.
type ending struct {
	code   uint64
	app    bool
	late   bool // the connection was Up
	owed   bool // the other side is to be told the code
	mutual bool // the other side has closed as well
}

// Close closes the connection with a code.
func (l *Line) Close(code uint64, app bool) api.Errno {
	switch {
	case l == nil:
		return api.ErrNone
	case code > api.MaxNum:
		return api.ErrArg
	case l.isOver():
		return api.ErrClosed
	}
	l.close(code, app)
	return api.OK
}

// Code returns the code with which the connection was closed, whether it is an application's, and whether this side closed it.
func (l *Line) Code() (uint64, bool, bool) {
	if l == nil {
		return 0, false, false
	}
	return l.ending.code, l.ending.app, l.state == Closed
}

func (l *Line) close(code uint64, app bool) {
	l.ending = ending{code: code, app: app, late: l.state == Up, owed: true}
	l.state = Closed
}

// farewell returns the datagram that tells the other side the code, if that is owed.
func (l *Line) farewell() [][]byte {
	// A server that heard nothing does not know whom to tell.
	if !l.ending.owed || l.spaces[api.Initial].keys == nil {
		return nil
	}
	l.ending.owed = false
	f := api.Frame{Kind: api.Close, Code: l.ending.code}
	if !l.ending.late {
		// Perhaps the other side has no later keys, and CloseApp is not permitted here.
		return [][]byte{l.alone(api.Initial, f)}
	}
	if l.ending.app {
		f.Kind = api.CloseApp
	}
	return [][]byte{append(l.lastWords(), l.alone(api.App, f)...)}
}

// lastWords returns a packet with the client's Finished if the server perhaps does not have it yet, as without it an App packet has no effect.
func (l *Line) lastWords() []byte {
	said := &l.spaces[api.Handshake].said
	if l.server || said.isAcked() {
		return nil
	}
	return l.alone(api.Handshake, api.Frame{Kind: api.Crypto, Data: said.data})
}

// alone returns a packet with only this frame.
func (l *Line) alone(level int, f api.Frame) []byte {
	p, _ := frame.Bytes(f)
	return l.seal(level, p)
}

// closes reports whether plain has a frame that closes the connection.
func closes(plain []byte) bool {
	l, _ := frame.All(plain)
	return slices.ContainsFunc(l, func(f api.Frame) bool { return f.Kind == api.Close || f.Kind == api.CloseApp })
}
