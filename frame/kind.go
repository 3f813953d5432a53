package frame

import "colonnade/api"

// fields is a set of the fields of a frame.
type fields byte

// The fields. The first four are numbers, and their order is the one in which every kind but Ack encodes those that it has.
const (
	hasID fields = 1 << iota
	hasCode
	hasOff
	hasN
	hasFin
	hasData
	hasToken
	hasRanges
)

const (
	mostStreams = 1 << 60
	mostName    = 20
	tokenLen    = 16
	pathLen     = 8
)

// fieldsOf returns the fields of a kind, and whether there is such a kind.
func fieldsOf(kind uint64) (fields, bool) {
	switch kind {
	case api.Ping, api.HandshakeDone:
		return 0, true
	case api.Padding, api.MaxData, api.DataBlocked, api.StreamsBidi, api.StreamsUni, api.BidiBlocked, api.UniBlocked:
		return hasN, true
	case api.Ack:
		return hasN | hasRanges, true
	case api.ResetStream:
		return hasID | hasCode | hasOff, true
	case api.StopSending:
		return hasID | hasCode, true
	case api.Crypto:
		return hasOff | hasData, true
	case api.NewToken, api.PathChallenge, api.PathResponse, api.Datagram:
		return hasData, true
	case api.Stream:
		return hasID | hasOff | hasFin | hasData, true
	case api.MaxStreamData, api.StreamBlocked:
		return hasID | hasN, true
	case api.NewConnectionID:
		return hasID | hasOff | hasData | hasToken, true
	case api.RetireID:
		return hasID, true
	case api.Close:
		return hasCode | hasN | hasData, true
	case api.CloseApp:
		return hasCode | hasData, true
	}
	return 0, false
}

func known(kind uint64) bool {
	_, ok := fieldsOf(kind)
	return ok
}

// valid reports whether f is a frame, of whatever size.
func valid(f api.Frame) bool {
	own, ok := fieldsOf(f.Kind)
	return ok && set(f)&^own == 0 && encodable(f) && fitting(f)
}

// set returns the fields of f that are set.
func set(f api.Frame) fields {
	var all fields
	add := func(field fields, is bool) {
		if is {
			all |= field
		}
	}
	add(hasID, f.ID != 0)
	add(hasCode, f.Code != 0)
	add(hasOff, f.Off != 0)
	add(hasN, f.N != 0)
	add(hasFin, f.Fin)
	add(hasData, len(f.Data) > 0)
	add(hasToken, len(f.Token) > 0)
	add(hasRanges, len(f.Ranges) > 0)
	return all
}

// encodable reports whether all numbers outside Ranges have an encoding.
func encodable(f api.Frame) bool {
	return max(f.ID, f.Code, f.Off, f.N) <= api.MaxNum
}

// fitting reports whether the fields that f may have are as its kind wants them.
func fitting(f api.Frame) bool {
	switch f.Kind {
	case api.Padding:
		return f.N > 0
	case api.Ack:
		return falling(f.Ranges)
	case api.Crypto, api.Stream:
		return uint64(len(f.Data)) <= api.MaxNum-f.Off
	case api.NewToken:
		return len(f.Data) > 0
	case api.StreamsBidi, api.StreamsUni, api.BidiBlocked, api.UniBlocked:
		return f.N <= mostStreams
	case api.NewConnectionID:
		return naming(f.ID, f.Off, uint64(len(f.Data))) && len(f.Token) == tokenLen
	case api.PathChallenge, api.PathResponse:
		return len(f.Data) == pathLen
	}
	return true
}

// naming reports whether a NewConnectionID may have this ID, this Off, and a name of this length.
func naming(id, off, length uint64) bool {
	return off <= id && length >= 1 && length <= mostName
}

// falling reports whether there are ranges, all encodable, in decreasing order, with numbers between them.
func falling(l []api.Range) bool {
	if len(l) == 0 || l[0].To > api.MaxNum {
		return false
	}
	for i, r := range l {
		if r.From > r.To {
			return false
		}
		if i > 0 && !below(r.To, l[i-1]) {
			return false
		}
	}
	return true
}

// below reports whether to is less than the number before r.
func below(to uint64, r api.Range) bool {
	return r.From >= 2 && to <= r.From-2
}
