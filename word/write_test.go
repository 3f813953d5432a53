package word_test

import (
	"bytes"
	"math"
	"slices"
	"testing"

	"colonnade/api"
	"colonnade/word"
)

func TestKinds(t *testing.T) {
	own := []uint64{
		word.Subscribe, word.SubscribeOK, word.SubscribeError, word.Announce, word.AnnounceOK, word.AnnounceError, word.Unannounce, word.Unsubscribe,
		word.SubscribeDone, word.Goaway, word.MaxRequest, word.Fetch, word.FetchCancel, word.FetchOK, word.FetchError, word.ClientSetup, word.ServerSetup,
	}
	if !slices.Equal(own, kinds) {
		t.Errorf("the kinds are %x; want %x", own, kinds)
	}
}

func TestBytes(t *testing.T) {
	seen := map[uint64]bool{}
	for _, x := range known {
		seen[x.m.Kind] = true
		if p, e := word.Bytes(x.m); e != api.OK || !bytes.Equal(p, unhex(x.code)) {
			t.Errorf("Bytes(%+v) = %x, %d; want %s", x.m, p, e, x.code)
		}
	}
	if len(seen) != len(kinds) {
		t.Errorf("%d of %d kinds are tested", len(seen), len(kinds))
	}
}

// Each field that isn't one of the kind's makes a message invalid.
func TestBytesOfForeignFields(t *testing.T) {
	fields := map[string]func(*word.Msg){
		"ID":           func(m *word.Msg) { m.ID = 1 },
		"Alias":        func(m *word.Msg) { m.Alias = 1 },
		"Name":         func(m *word.Msg) { m.Name = []byte("a") },
		"Priority":     func(m *word.Msg) { m.Priority = 1 },
		"Order":        func(m *word.Msg) { m.Order = 1 },
		"Start group":  func(m *word.Msg) { m.Start.Group = 1 },
		"Start object": func(m *word.Msg) { m.Start.Object = 1 },
		"End group":    func(m *word.Msg) { m.End.Group = 2 },
		"End object":   func(m *word.Msg) { m.End.Object = 2 },
		"Some":         func(m *word.Msg) { m.Some = true },
		"Code":         func(m *word.Msg) { m.Code = 1 },
		"Reason":       func(m *word.Msg) { m.Reason = []byte("a") },
		"N":            func(m *word.Msg) { m.N = 1 },
		"Version":      func(m *word.Msg) { m.Version = 1 },
		"Versions":     func(m *word.Msg) { m.Versions = []uint64{1} },
	}
	own := map[uint64][]string{
		word.Subscribe:      {"ID", "Alias", "Name", "Priority", "Order", "Start group", "Start object", "End group"},
		word.SubscribeOK:    {"ID", "Some", "Start group", "Start object"},
		word.SubscribeError: {"ID", "Code", "Reason"},
		word.Announce:       {"ID", "Name"},
		word.AnnounceOK:     {"ID"},
		word.AnnounceError:  {"ID", "Code", "Reason"},
		word.Unannounce:     {"Name"},
		word.Unsubscribe:    {"ID"},
		word.SubscribeDone:  {"ID", "Code", "Reason"},
		word.Goaway:         {},
		word.MaxRequest:     {"N"},
		word.Fetch:          {"ID", "Name", "Priority", "Start group", "Start object", "End group", "End object"},
		word.FetchCancel:    {"ID"},
		word.FetchOK:        {"ID"},
		word.FetchError:     {"ID", "Code", "Reason"},
		word.ClientSetup:    {"Versions", "N"},
		word.ServerSetup:    {"Version", "N"},
	}
	for _, kind := range kinds {
		m := word.Msg{Kind: kind}
		for _, field := range own[kind] {
			fields[field](&m)
		}
		checkBytes(t, m, api.OK)
		for field, set := range fields {
			if slices.Contains(own[kind], field) {
				continue
			}
			n := m
			set(&n)
			if p, e := word.Bytes(n); e != api.ErrForm || len(p) != 0 {
				t.Errorf("Bytes of kind %x with %s = %x, %d; want ErrForm", kind, field, p, e)
			}
		}
	}
}

func TestBytesOfUnknownKinds(t *testing.T) {
	for kind := range uint64(300) {
		if !slices.Contains(kinds, kind) {
			checkBytes(t, word.Msg{Kind: kind}, api.ErrForm)
			checkBytes(t, word.Msg{Kind: kind, ID: 4}, api.ErrForm)
		}
	}
	for _, kind := range []uint64{1<<8 | word.Goaway, 1<<32 | word.Goaway, 1<<62 | word.Goaway, 1<<63 | word.Goaway, top, math.MaxUint64} {
		checkBytes(t, word.Msg{Kind: kind}, api.ErrForm)
	}
}

// A number above MaxNum is invalid in any field.
func TestBytesOfGreatNumbers(t *testing.T) {
	name := []byte("a")
	for _, n := range []uint64{top + 1, math.MaxUint64} {
		for _, kind := range []uint64{word.SubscribeOK, word.SubscribeError, word.AnnounceOK, word.AnnounceError, word.Unsubscribe, word.SubscribeDone, word.FetchCancel, word.FetchOK, word.FetchError} {
			checkBytes(t, word.Msg{Kind: kind, ID: top}, api.OK)
			checkBytes(t, word.Msg{Kind: kind, ID: n}, api.ErrForm)
		}
		for _, kind := range []uint64{word.SubscribeError, word.AnnounceError, word.SubscribeDone, word.FetchError} {
			checkBytes(t, word.Msg{Kind: kind, Code: n}, api.ErrForm)
		}
		for _, m := range []word.Msg{
			{Kind: word.Subscribe, ID: n, Name: name, Order: 1},
			{Kind: word.Subscribe, Alias: n, Name: name, Order: 1},
			{Kind: word.Subscribe, Name: name, Order: 1, Start: at(n, 0)},
			{Kind: word.Subscribe, Name: name, Order: 1, Start: at(0, n)},
			{Kind: word.Subscribe, Name: name, Order: 1, End: at(n, 0)},
			{Kind: word.SubscribeOK, Some: true, Start: at(n, 0)},
			{Kind: word.SubscribeOK, Some: true, Start: at(0, n)},
			{Kind: word.Announce, ID: n, Name: name},
			{Kind: word.MaxRequest, N: n},
			{Kind: word.Fetch, ID: n, Name: name},
			{Kind: word.Fetch, Name: name, Start: at(n, 0), End: at(n, 0)},
			{Kind: word.Fetch, Name: name, Start: at(0, n), End: at(1, 0)},
			{Kind: word.Fetch, Name: name, End: at(n, 0)},
			{Kind: word.Fetch, Name: name, End: at(0, n)},
			{Kind: word.ClientSetup, Versions: []uint64{1}, N: n},
			{Kind: word.ClientSetup, Versions: []uint64{n}},
			{Kind: word.ClientSetup, Versions: []uint64{1, 2, n, 3}},
			{Kind: word.ServerSetup, Version: n},
			{Kind: word.ServerSetup, N: n},
		} {
			checkBytes(t, m, api.ErrForm)
		}
	}
}

func TestBytesOfNamesAndReasons(t *testing.T) {
	for n, want := range map[int]api.Errno{0: api.ErrForm, 1: api.OK, 32: api.OK, 33: api.ErrForm, 64: api.ErrForm, 70000: api.ErrForm} {
		checkBytes(t, word.Msg{Kind: word.Subscribe, Name: text(n), Order: 1}, want)
		checkBytes(t, word.Msg{Kind: word.Announce, Name: text(n)}, want)
		checkBytes(t, word.Msg{Kind: word.Unannounce, Name: text(n)}, want)
		checkBytes(t, word.Msg{Kind: word.Fetch, Name: text(n)}, want)
	}
	for n, want := range map[int]api.Errno{0: api.OK, 1: api.OK, 64: api.OK, 65: api.ErrForm, 70000: api.ErrForm} {
		for _, kind := range []uint64{word.SubscribeError, word.AnnounceError, word.SubscribeDone, word.FetchError} {
			checkBytes(t, word.Msg{Kind: kind, Reason: text(n)}, want)
		}
	}
}

func TestBytesOfSubscribe(t *testing.T) {
	for order := range 256 {
		want := api.ErrForm
		if order == 1 || order == 2 {
			want = api.OK
		}
		checkBytes(t, word.Msg{Kind: word.Subscribe, Name: []byte("a"), Order: byte(order)}, want)
	}
	for _, x := range []struct {
		start, end api.Place
		want       api.Errno
	}{
		{at(0, 0), at(0, 0), api.OK},
		{at(0, 0), at(1, 0), api.OK},
		{at(5, 9), at(0, 0), api.OK},
		{at(5, 9), at(6, 0), api.OK},
		{at(5, 9), at(top, 0), api.OK},
		{at(5, 9), at(5, 0), api.ErrForm},
		{at(5, 0), at(5, 0), api.ErrForm},
		{at(5, 9), at(4, 0), api.ErrForm},
		{at(5, 9), at(1, 0), api.ErrForm},
		{at(top, 0), at(top, 0), api.ErrForm},
		{at(5, 0), at(6, 1), api.ErrForm},
		{at(0, 0), at(0, 1), api.ErrForm},
	} {
		checkBytes(t, word.Msg{Kind: word.Subscribe, Name: []byte("a"), Order: 2, Start: x.start, End: x.end}, x.want)
	}
}

func TestBytesOfFetch(t *testing.T) {
	for _, x := range []struct {
		start, end api.Place
		want       api.Errno
	}{
		{at(0, 0), at(0, 0), api.OK},
		{at(3, 4), at(3, 4), api.OK},
		{at(3, 4), at(3, 5), api.OK},
		{at(3, 4), at(4, 0), api.OK},
		{at(3, 4), at(3, 3), api.ErrForm},
		{at(3, 4), at(2, 9), api.ErrForm},
		{at(3, 0), at(0, 0), api.ErrForm},
		{at(0, 1), at(0, 0), api.ErrForm},
	} {
		checkBytes(t, word.Msg{Kind: word.Fetch, Name: []byte("a"), Start: x.start, End: x.end}, x.want)
	}
}

// Without any object there is no largest place.
func TestBytesOfSubscribeOK(t *testing.T) {
	for _, start := range []api.Place{at(0, 1), at(1, 0), at(3, 4)} {
		checkBytes(t, word.Msg{Kind: word.SubscribeOK, Start: start}, api.ErrForm)
		checkBytes(t, word.Msg{Kind: word.SubscribeOK, Some: true, Start: start}, api.OK)
	}
}

func TestBytesOfVersions(t *testing.T) {
	for n, want := range map[int]api.Errno{0: api.ErrForm, 1: api.OK, 8: api.OK, 9: api.ErrForm, 63: api.ErrForm, 64: api.ErrForm, 10000: api.ErrForm} {
		checkBytes(t, word.Msg{Kind: word.ClientSetup, Versions: make([]uint64, n)}, want)
	}
}
