package greet

import (
	"colonnade/api"
	"colonnade/scan"
	"colonnade/vint"
)

// Params are what a side permits.
type Params struct {
	Idle   uint64
	Credit uint64
	Window uint64
	Bidi   uint64
	Uni    uint64
	Gram   uint64
}

// param is a parameter and the identifier before it.
type param struct {
	id    uint64
	value *uint64
}

// Bytes returns the parameters that are not 0, each after its identifier.
func (p Params) Bytes() []byte {
	var out []byte
	for _, x := range p.all() {
		if *x.value == 0 {
			continue
		}
		id, _ := vint.Num(x.id)
		value, _ := vint.Num(min(*x.value, api.MaxNum))
		out = append(out, id...)
		out = append(out, vint.Text(value)...)
	}
	return out
}

// ReadParams returns the parameters that Bytes made b from. They may be in any order and among others.
func ReadParams(b []byte) (Params, api.Errno) {
	var p Params
	seen := make(map[uint64]struct{})
	for r := scan.New(b); len(r.Left()) > 0; {
		id := r.Number()
		text := r.Bytes(r.Number())
		_, twice := seen[id]
		if r.Errno() != api.OK || twice || !p.set(id, text) {
			return Params{}, api.ErrForm
		}
		seen[id] = struct{}{}
	}
	return p, api.OK
}

// all returns the parameters in their order.
func (p *Params) all() []param {
	return []param{
		{0x01, &p.Idle},
		{0x04, &p.Credit},
		{0x06, &p.Window},
		{0x08, &p.Bidi},
		{0x09, &p.Uni},
		{0x20, &p.Gram},
	}
}

// set sets the parameter with that identifier, if there is one, and reports whether text is right for it.
func (p *Params) set(id uint64, text []byte) bool {
	for _, x := range p.all() {
		if x.id != id {
			continue
		}
		n, rest, e := vint.Take(text)
		*x.value = n
		return e == api.OK && len(rest) == 0
	}
	return true
}
