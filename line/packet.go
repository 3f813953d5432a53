package line

import (
	"colonnade/api"
	"colonnade/frame"
	"colonnade/head"
	"colonnade/loss"
	"colonnade/parcel"
)

const (
	tagSize    = 16
	leastPlain = 3 // with a packet number of one byte, no fewer can be protected
)

// bundle is the frames of a packet that is being built.
type bundle struct {
	room  int // for the bytes of further frames
	plain []byte
	count int
	load  load
}

// add adds a frame, or returns false if there is no room.
func (b *bundle) add(f api.Frame) bool {
	p, _ := frame.Bytes(f)
	if len(p) > b.room || b.count == api.MaxFrames {
		return false
	}
	b.room -= len(p)
	b.plain = append(b.plain, p...)
	b.count++
	if frame.Asks(f.Kind) {
		b.load.frames = append(b.load.frames, f)
	}
	return true
}

// narrow leaves so much room that the bundle has at most most bytes. One that is too short is filled up later, so there must be room for that, too.
func (b *bundle) narrow(most int) {
	b.room = min(b.room, most-len(b.plain))
	if b.room < leastPlain {
		b.room = 0
	}
}

// isEmpty reports whether nothing is to be sent.
func (b *bundle) isEmpty() bool {
	return len(b.plain) == 0
}

// datagrams returns what is to be sent, as much as is permitted.
func (l *Line) datagrams() [][]byte {
	var sent [][]byte
	for len(sent) < mostDatagrams {
		p := l.datagram()
		if len(p) == 0 {
			break
		}
		sent = append(sent, p)
	}
	return sent
}

// datagram returns a packet of each level that has something to send, one after the other.
func (l *Line) datagram() []byte {
	var p []byte
	for level := range l.spaces {
		p = append(p, l.packet(level, api.MaxPacket-len(p))...)
	}
	return p
}

// packet returns the next packet of a level, with at most room bytes, or nothing if there is nothing to send.
func (l *Line) packet(level, room int) []byte {
	s := l.spaces[level]
	if s.keys == nil || level == api.App && l.state != Up {
		return nil
	}
	around := l.around(level)
	most := room
	if !s.extra {
		most = min(most, l.meter.Room())
	}
	b := l.fill(level, room-around, most-around)
	if b.isEmpty() {
		return nil
	}
	pn := s.next
	p := l.seal(level, b.plain)
	if b.load.asks() {
		s.extra = false
		s.loads[pn] = b.load
		s.ledger.Send(loss.Packet{Number: pn, Sent: l.now, Size: len(p), Asks: true})
		l.meter.Send(len(p))
	}
	return p
}

// fill returns what the next packet of a level carries: at most room bytes, and at most most if it is more than acknowledgements.
func (l *Line) fill(level, room, most int) bundle {
	if level == api.App {
		if p := l.raws.next(most); len(p) > 0 {
			return bundle{plain: p, load: load{raw: p}}
		}
	}
	s := l.spaces[level]
	b := bundle{room: room}
	s.addAcks(&b, l.now)
	b.narrow(most)
	if f, ok := s.said.next(b.room); ok {
		b.add(f)
	}
	if level == api.App {
		l.addEchoes(&b)
		l.addStreams(&b)
		l.grams.addTo(&b)
	}
	return b
}

// addAcks adds acknowledgements of all that is to be acknowledged.
func (s *space) addAcks(b *bundle, now uint64) {
	for s.owed.Len() > 0 {
		f := s.nextAck(now)
		if !b.add(f) {
			return
		}
		s.owed.Cut(f.Ranges[len(f.Ranges)-1].From, api.MaxNum)
	}
}

// nextAck returns an Ack of everything received. If there are too many gaps for it to reach what is to be acknowledged, it returns one of that.
func (s *space) nextAck(now uint64) api.Frame {
	f := api.Frame{Kind: api.Ack, N: now - s.latest, Ranges: s.came.Ranges(api.MaxRanges)}
	if largest, _ := s.owed.Largest(); largest < f.Ranges[len(f.Ranges)-1].From {
		f = api.Frame{Kind: api.Ack, Ranges: s.owed.Ranges(api.MaxRanges)}
	}
	return f
}

func (l *Line) addEchoes(b *bundle) {
	for len(l.echoes) > 0 && b.add(api.Frame{Kind: api.PathResponse, Data: l.echoes[0]}) {
		l.echoes = l.echoes[1:]
	}
}

// addStreams adds the frames of the streams. Those that are too many are lost at once, so that they come in the next packet.
func (l *Line) addStreams(b *bundle) {
	for _, f := range l.table.Frames(b.room) {
		if !b.add(f) {
			l.table.Lost(f)
		}
	}
}

// seal returns the next packet of a level, carrying plain.
func (l *Line) seal(level int, plain []byte) []byte {
	s := l.spaces[level]
	for len(plain) < leastPlain {
		plain = append(plain, 0)
	}
	p, _ := parcel.Close(s.keys.seal, l.header(level), s.next, s.numberSize(), plain)
	s.next++
	return p
}

// around returns how many bytes the next packet of a level has around its frames.
func (l *Line) around(level int) int {
	s := l.spaces[level]
	p, _ := head.Bytes(l.header(level), s.next, s.numberSize(), 0)
	return len(p) + tagSize
}

func (l *Line) header(level int) api.Head {
	if level == api.App {
		return api.Head{Level: level, To: l.peer[:]}
	}
	return api.Head{Long: true, Level: level, To: l.peer[:], From: l.name[:]}
}
