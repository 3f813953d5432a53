package talk

import (
	"bytes"
	"slices"

	"colonnade/api"
	"colonnade/word"
)

func isRequest(kind uint64) bool {
	return kind == word.Subscribe || kind == word.Announce || kind == word.Fetch
}

func valid(m word.Msg) bool {
	_, e := word.Bytes(m)
	return e == api.OK
}

// clone returns m with memory of its own.
func clone(m word.Msg) word.Msg {
	m.Name = bytes.Clone(m.Name)
	m.Reason = bytes.Clone(m.Reason)
	m.Versions = slices.Clone(m.Versions)
	return m
}
