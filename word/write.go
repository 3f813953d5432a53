package word

import (
	"colonnade/api"
	"colonnade/vint"
)

// encode returns the encoding of a message, which is valid.
func encode(m Msg) []byte {
	body := encodeFields(m)
	p := number(nil, m.Kind)
	p = append(p, byte(len(body)>>8), byte(len(body)))
	return append(p, body...)
}

func encodeFields(m Msg) []byte {
	var p []byte
	own, _ := fieldsOf(m.Kind)
	for field := hasID; field <= hasN; field <<= 1 {
		if own&field != 0 {
			p = appendField(p, m, field)
		}
	}
	return p
}

func appendField(p []byte, m Msg, field fields) []byte {
	switch field {
	case hasID:
		return number(p, m.ID)
	case hasAlias:
		return number(p, m.Alias)
	case hasName:
		return append(p, vint.Text(m.Name)...)
	case hasPriority:
		return append(p, m.Priority)
	case hasOrder:
		return append(p, m.Order)
	case hasSome:
		return append(p, bit(m.Some))
	case hasStart:
		return place(p, m.Start)
	case hasEnd:
		if m.Kind == Subscribe {
			return number(p, m.End.Group)
		}
		return place(p, m.End)
	case hasCode:
		return number(p, m.Code)
	case hasReason:
		return append(p, vint.Text(m.Reason)...)
	case hasVersions:
		return list(p, m.Versions)
	case hasVersion:
		return number(p, m.Version)
	case hasN:
		return number(p, m.N)
	}
	return p
}

func number(p []byte, n uint64) []byte {
	code, _ := vint.Num(n)
	return append(p, code...)
}

func place(p []byte, at api.Place) []byte {
	return number(number(p, at.Group), at.Object)
}

func list(p []byte, l []uint64) []byte {
	p = number(p, uint64(len(l)))
	for _, n := range l {
		p = number(p, n)
	}
	return p
}

func bit(is bool) byte {
	if is {
		return 1
	}
	return 0
}
