package frame

import (
	"colonnade/api"
	"colonnade/vint"
)

// The bits of a type that tell more than the kind.
const (
	finBit     = 1 // of Stream
	textBit    = 2
	offBit     = 4
	gramBit    = 1 // of Datagram, there for the data as a text
	streamBits = finBit | textBit | offBit
)

// encode returns the encoding of a frame, which is valid.
func encode(f api.Frame) []byte {
	switch f.Kind {
	case api.Padding:
		return make([]byte, f.N)
	case api.Ack:
		return encodeAck(f)
	}
	p := number(nil, typeOf(f))
	own, _ := fieldsOf(f.Kind)
	if own&hasID != 0 {
		p = number(p, f.ID)
	}
	if own&hasCode != 0 {
		p = number(p, f.Code)
	}
	if own&hasOff != 0 && (f.Kind != api.Stream || f.Off != 0) {
		p = number(p, f.Off)
	}
	if own&hasN != 0 {
		p = number(p, f.N)
	}
	if own&hasData != 0 {
		p = data(p, f)
	}
	return append(p, f.Token...)
}

// encodeAck writes, of the ranges, how far apart their ends are.
func encodeAck(f api.Frame) []byte {
	first := f.Ranges[0]
	p := number(nil, f.Kind)
	p = number(p, first.To)
	p = number(p, f.N)
	p = number(p, uint64(len(f.Ranges)-1))
	p = number(p, first.To-first.From)
	low := first.From
	for _, r := range f.Ranges[1:] {
		p = number(p, low-r.To-2)
		p = number(p, r.To-r.From)
		low = r.From
	}
	return p
}

// typeOf returns the type that the encoding of f begins with.
func typeOf(f api.Frame) uint64 {
	switch f.Kind {
	case api.Datagram:
		return f.Kind | gramBit
	case api.Stream:
		t := f.Kind | textBit
		if f.Off != 0 {
			t |= offBit
		}
		if f.Fin {
			t |= finBit
		}
		return t
	}
	return f.Kind
}

// data appends the Data of f to p, in its kind's way.
func data(p []byte, f api.Frame) []byte {
	switch f.Kind {
	case api.PathChallenge, api.PathResponse:
		return append(p, f.Data...)
	case api.NewConnectionID:
		p = append(p, byte(len(f.Data)))
		return append(p, f.Data...)
	}
	return append(p, vint.Text(f.Data)...)
}

func number(p []byte, n uint64) []byte {
	code, _ := vint.Num(n)
	return append(p, code...)
}
