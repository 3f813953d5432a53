package frame

import (
	"colonnade/api"
	"colonnade/scan"
	"colonnade/vint"
)

// read returns the frame at the beginning of p and what is left of p, not copied.
func read(p []byte) (api.Frame, []byte, api.Errno) {
	r := scan.New(p)
	t := r.Number()
	f := api.Frame{Kind: kindOf(t)}
	r.Must(known(f.Kind) && vint.Least(p))
	switch f.Kind {
	case api.Padding:
		f.N = 1 + takeZeros(r)
	case api.Ack:
		takeAck(r, &f)
	case api.NewConnectionID:
		takeName(r, &f)
	default:
		takeFields(r, &f, t)
	}
	r.Must(valid(f))
	return f, r.Left(), r.Errno()
}

// kindOf returns the kind of a type, or the type itself if there is no such type.
func kindOf(t uint64) uint64 {
	switch {
	case t&^streamBits == api.Stream:
		return api.Stream
	case t&^gramBit == api.Datagram:
		return api.Datagram
	}
	return t
}

// takeZeros takes all bytes that are zero and returns their number.
func takeZeros(r *scan.Reader) uint64 {
	var n uint64
	for len(r.Left()) > 0 && r.Left()[0] == 0 {
		r.Byte()
		n++
	}
	return n
}

// takeFields takes the fields of a frame of the type t whose kind has none but ID, Code, Off, N, Fin and Data.
func takeFields(r *scan.Reader, f *api.Frame, t uint64) {
	own, _ := fieldsOf(f.Kind)
	if own&hasID != 0 {
		f.ID = r.Number()
	}
	if own&hasCode != 0 {
		f.Code = r.Number()
	}
	if own&hasOff != 0 && (f.Kind != api.Stream || t&offBit != 0) {
		f.Off = r.Number()
	}
	if own&hasN != 0 {
		f.N = r.Number()
	}
	if own&hasFin != 0 {
		f.Fin = t&finBit != 0
	}
	if own&hasData != 0 {
		f.Data = r.Bytes(dataLength(r, f.Kind, t))
	}
}

// dataLength returns how many bytes Data has; it takes that number, if the type t says that it is there.
func dataLength(r *scan.Reader, kind, t uint64) uint64 {
	left := uint64(len(r.Left()))
	switch {
	case kind == api.PathChallenge || kind == api.PathResponse:
		return pathLen
	case kind == api.Stream && t&textBit == 0:
		return left
	case kind == api.Datagram && t&gramBit == 0:
		return left
	}
	return r.Number()
}

// takeName takes the fields of a NewConnectionID. What its name's length shows to be wrong is wrong even if bytes are missing later.
func takeName(r *scan.Reader, f *api.Frame) {
	f.ID = r.Number()
	f.Off = r.Number()
	length := uint64(r.Byte())
	r.Must(naming(f.ID, f.Off, length))
	f.Data = r.Bytes(length)
	f.Token = r.Bytes(tokenLen)
}

// takeAck takes the fields of an Ack. A wrong range is wrong even if bytes are missing later.
func takeAck(r *scan.Reader, f *api.Frame) {
	to := r.Number()
	f.N = r.Number()
	more := r.Number()
	further := r.Number()
	takeRange(r, f, to, further)
	for ; more > 0 && r.Errno() == api.OK; more-- {
		gap := r.Number()
		further := r.Number()
		low := f.Ranges[len(f.Ranges)-1].From
		r.Must(low >= gap+2)
		takeRange(r, f, low-gap-2, further)
	}
}

// takeRange adds to f the range of the number to and of further ones below it.
func takeRange(r *scan.Reader, f *api.Frame, to, further uint64) {
	r.Must(further <= to)
	if r.Errno() == api.OK {
		f.Ranges = append(f.Ranges, api.Range{From: to - further, To: to})
	}
}
