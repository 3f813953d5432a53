package word

import "colonnade/api"

// fields is a set of the fields of a message.
type fields uint16

// The fields, in the order in which every kind encodes those that it has.
const (
	hasID fields = 1 << iota
	hasAlias
	hasName
	hasPriority
	hasOrder
	hasSome
	hasStart
	hasEnd
	hasCode
	hasReason
	hasVersions
	hasVersion
	hasN
)

// The values of Order.
const (
	rising  = 1
	falling = 2
)

const mostVersions = 8

// fieldsOf returns the fields of a kind, and whether there is such a kind.
func fieldsOf(kind uint64) (fields, bool) {
	switch kind {
	case Subscribe:
		return hasID | hasAlias | hasName | hasPriority | hasOrder | hasStart | hasEnd, true
	case SubscribeOK:
		return hasID | hasSome | hasStart, true
	case SubscribeError, AnnounceError, SubscribeDone, FetchError:
		return hasID | hasCode | hasReason, true
	case Announce:
		return hasID | hasName, true
	case AnnounceOK, Unsubscribe, FetchCancel, FetchOK:
		return hasID, true
	case Unannounce:
		return hasName, true
	case Goaway:
		return 0, true
	case MaxRequest:
		return hasN, true
	case Fetch:
		return hasID | hasName | hasPriority | hasStart | hasEnd, true
	case ClientSetup:
		return hasVersions | hasN, true
	case ServerSetup:
		return hasVersion | hasN, true
	}
	return 0, false
}

func known(kind uint64) bool {
	_, ok := fieldsOf(kind)
	return ok
}

func valid(m Msg) bool {
	own, ok := fieldsOf(m.Kind)
	return ok && set(m)&^own == 0 && encodable(m) && fitting(m)
}

// set returns the fields of m that are set.
func set(m Msg) fields {
	var all fields
	add := func(field fields, is bool) {
		if is {
			all |= field
		}
	}
	add(hasID, m.ID != 0)
	add(hasAlias, m.Alias != 0)
	add(hasName, len(m.Name) > 0)
	add(hasPriority, m.Priority != 0)
	add(hasOrder, m.Order != 0)
	add(hasSome, m.Some)
	add(hasStart, m.Start != api.Place{})
	add(hasEnd, m.End != api.Place{})
	add(hasCode, m.Code != 0)
	add(hasReason, len(m.Reason) > 0)
	add(hasVersions, len(m.Versions) > 0)
	add(hasVersion, m.Version != 0)
	add(hasN, m.N != 0)
	return all
}

// encodable reports whether all numbers have an encoding.
func encodable(m Msg) bool {
	most := max(m.ID, m.Alias, m.Start.Group, m.Start.Object, m.End.Group, m.End.Object, m.Code, m.N, m.Version)
	for _, n := range m.Versions {
		most = max(most, n)
	}
	return most <= api.MaxNum
}

// fitting reports whether the fields that m may have are as its kind wants them.
func fitting(m Msg) bool {
	switch m.Kind {
	case Subscribe:
		return naming(m.Name) && (m.Order == rising || m.Order == falling) && closing(m)
	case SubscribeOK:
		return m.Some || m.Start == api.Place{}
	case SubscribeError, AnnounceError, SubscribeDone, FetchError:
		return len(m.Reason) <= api.MaxReason
	case Announce, Unannounce:
		return naming(m.Name)
	case Fetch:
		return naming(m.Name) && !Less(m.End, m.Start)
	case ClientSetup:
		return len(m.Versions) >= 1 && len(m.Versions) <= mostVersions
	}
	return true
}

// naming reports whether a track may have this name.
func naming(name []byte) bool {
	return len(name) >= 1 && len(name) <= api.MaxName
}

// closing reports whether a Subscribe has no end, or one that is a group after the one it starts in.
func closing(m Msg) bool {
	return m.End.Object == 0 && (m.End.Group == 0 || m.End.Group > m.Start.Group)
}
