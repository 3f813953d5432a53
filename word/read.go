package word

import (
	"colonnade/api"
	"colonnade/scan"
)

// parse returns the message of a kind whose fields are all of p. It panics with ErrForm if there is none.
func parse(kind uint64, p []byte) Msg {
	s := scan.NewParser(p, api.ErrForm)
	m := Msg{Kind: kind}
	own, _ := fieldsOf(kind)
	for field := hasID; field <= hasN; field <<= 1 {
		if own&field != 0 {
			takeField(s, &m, field)
		}
	}
	s.Must(len(s.Left()) == 0 && valid(m))
	return m
}

func takeField(s *scan.Parser, m *Msg, field fields) {
	switch field {
	case hasID:
		m.ID = s.Number()
	case hasAlias:
		m.Alias = s.Number()
	case hasName:
		m.Name = s.Text(api.MaxName)
	case hasPriority:
		m.Priority = s.Byte()
	case hasOrder:
		m.Order = s.Byte()
	case hasSome:
		m.Some = takeBit(s)
	case hasStart:
		m.Start = takePlace(s)
	case hasEnd:
		if m.Kind == Subscribe {
			m.End.Group = s.Number()
		} else {
			m.End = takePlace(s)
		}
	case hasCode:
		m.Code = s.Number()
	case hasReason:
		m.Reason = s.Text(api.MaxReason)
	case hasVersions:
		m.Versions = takeList(s)
	case hasVersion:
		m.Version = s.Number()
	case hasN:
		m.N = s.Number()
	}
}

func takeBit(s *scan.Parser) bool {
	b := s.Byte()
	s.Must(b <= 1)
	return b == 1
}

func takePlace(s *scan.Parser) api.Place {
	group := s.Number()
	return api.Place{Group: group, Object: s.Number()}
}

func takeList(s *scan.Parser) []uint64 {
	count := s.Number()
	s.Must(count <= mostVersions)
	var l []uint64
	for range count {
		l = append(l, s.Number())
	}
	return l
}
