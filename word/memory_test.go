package word_test

import (
	"bytes"
	"slices"
	"testing"

	"colonnade/api"
	"colonnade/word"
)

func flip(p []byte) {
	p = p[:cap(p)]
	for i := range p {
		p[i] ^= 0xff
	}
}

// Arguments stay as they are with their spare capacity, and results share no memory with them or with each other.
func TestMemoryOfRead(t *testing.T) {
	for _, x := range known {
		p := append(unhex(x.code), text(50)...)
		size := len(p) - 50 + 5
		whole := slices.Clone(p)
		m, rest, _ := word.Read(p[:size])
		n, rest2, e := word.Read(p[:size])
		if e != api.OK || !bytes.Equal(p, whole) {
			t.Fatalf("Read of kind %x changes its argument, or returns %d", x.m.Kind, e)
		}
		all := [][]byte{p, m.Name, m.Reason, rest, n.Name, n.Reason, rest2}
		for i, q := range all {
			for j, r := range all {
				kept := slices.Clone(r[:cap(r)])
				flip(q)
				if i != j && !bytes.Equal(r[:cap(r)], kept) {
					t.Errorf("kind %x: result %d shares memory with result %d", x.m.Kind, i, j)
				}
				flip(q)
			}
		}
		clear(m.Versions[:cap(m.Versions)])
		if !slices.Equal(n.Versions, x.m.Versions) {
			t.Errorf("kind %x: two results share Versions", x.m.Kind)
		}
	}
}

func TestMemoryOfBytes(t *testing.T) {
	for _, x := range known {
		m := x.m
		m.Name = append(slices.Clone(m.Name), text(60)...)[:len(m.Name)]
		m.Reason = append(slices.Clone(m.Reason), text(60)...)[:len(m.Reason)]
		m.Versions = append(slices.Clone(m.Versions), 5, 6, 7)[:len(m.Versions)]
		name, reason, versions := slices.Clone(m.Name[:cap(m.Name)]), slices.Clone(m.Reason[:cap(m.Reason)]), slices.Clone(m.Versions[:cap(m.Versions)])
		p, _ := word.Bytes(m)
		q, _ := word.Bytes(m)
		flip(p)
		if !bytes.Equal(q, unhex(x.code)) {
			t.Errorf("two results of Bytes of kind %x share memory", x.m.Kind)
		}
		if !bytes.Equal(m.Name[:cap(m.Name)], name) || !bytes.Equal(m.Reason[:cap(m.Reason)], reason) || !slices.Equal(m.Versions[:cap(m.Versions)], versions) {
			t.Errorf("Bytes of kind %x changes its argument", x.m.Kind)
		}
	}
}
