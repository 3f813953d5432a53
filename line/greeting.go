package line

import (
	"colonnade/api"
	"colonnade/greet"
	"colonnade/parcel"
	"colonnade/pipe"
)

// pair is the keys of both directions.
type pair struct {
	seal parcel.Keys
	open parcel.Keys
}

func machineConfig(c Config) greet.Config {
	return greet.Config{Server: c.Server, Identity: c.Identity, Secret: c.Secret, Params: c.Params.Bytes(), Random: c.Random}
}

func limits(p greet.Params) pipe.Limits {
	return pipe.Limits{Window: p.Window, Credit: p.Credit, Bidi: p.Bidi, Uni: p.Uni}
}

// draw returns the keys of the client's and the server's secret.
func (l *Line) draw(client, server [32]byte) *pair {
	if l.server {
		client, server = server, client
	}
	return &pair{seal: parcel.Draw(client), open: parcel.Draw(server)}
}

// shake goes on with the handshake as far as what was received permits. It returns 0, or the code with which the connection must be closed.
func (l *Line) shake(level int, p []byte) uint64 {
	if code := l.machine.Hear(level, p); code != 0 {
		return code
	}
	if code := l.learn(); code != 0 {
		return code
	}
	l.say()
	for level := api.Handshake; level <= api.App; level++ {
		client, server, ok := l.machine.Secrets(level)
		if s := l.spaces[level]; ok && s.keys == nil {
			s.keys = l.draw(client, server)
		}
	}
	if l.machine.Done() {
		l.state = Up
	}
	return 0
}

// say takes what the machine has to say.
func (l *Line) say() {
	for _, x := range l.machine.Out() {
		l.spaces[x.Level].said.write(x.Data)
	}
}

// learn takes the other side's parameters, once they were received. It returns 0, or the code with which the connection must be closed.
func (l *Line) learn() uint64 {
	b, ok := l.machine.Peer()
	if !ok || l.learned {
		return 0
	}
	p, e := greet.ReadParams(b)
	if e != api.OK {
		return api.TransportParameter
	}
	l.learned = true
	l.table.Peer(limits(p))
	l.grams.may = p.Gram
	l.idle = sooner(l.idle, p.Idle)
	return 0
}

// sooner returns the smaller one of two waits, of which 0 never ends.
func sooner(a, b uint64) uint64 {
	if a == 0 || b == 0 {
		return max(a, b)
	}
	return min(a, b)
}
