package greet_test

import (
	"bytes"
	"math"
	"math/rand/v2"
	"slices"
	"testing"

	"colonnade/api"
	"colonnade/greet"
	"colonnade/vint"
)

func checkRead(t *testing.T, b []byte, want greet.Params, wantE api.Errno) {
	t.Helper()
	if p, e := greet.ReadParams(b); p != want || e != wantE {
		t.Errorf("ReadParams(%x) = %+v, %d; want %+v, %d", b, p, e, want, wantE)
	}
}

func TestParamsBytes(t *testing.T) {
	for _, x := range []struct {
		p    greet.Params
		want string
	}{
		{greet.Params{}, ""},
		{greet.Params{Idle: 5}, "010105"},
		{greet.Params{Credit: 5}, "040105"},
		{greet.Params{Window: 5}, "060105"},
		{greet.Params{Bidi: 5}, "080105"},
		{greet.Params{Uni: 5}, "090105"},
		{greet.Params{Gram: 5}, "200105"},
		{greet.Params{Window: 5, Gram: 9}, "060105200109"},
		{greet.Params{Idle: 1, Credit: 2, Window: 3, Bidi: 4, Uni: 5, Gram: 6}, "010101040102060103080104090105200106"},
		{greet.Params{Idle: 63, Credit: 64, Window: 16383, Bidi: 16384, Uni: 1<<30 - 1, Gram: 1 << 30},
			"01013f" + "04024040" + "06027fff" + "080480004000" + "0904bfffffff" + "2008c000000040000000"},
		{greet.Params{Idle: api.MaxNum}, "0108ffffffffffffffff"},
		{greet.Params{Idle: api.MaxNum + 1, Gram: math.MaxUint64}, "0108ffffffffffffffff2008ffffffffffffffff"},
	} {
		if p := x.p.Bytes(); !bytes.Equal(p, unhex(x.want)) {
			t.Errorf("Bytes of %+v = %x; want %s", x.p, p, x.want)
		}
	}
}

// pairsOf returns the pairs of six parameters, and the parameters.
func pairsOf(random *rand.Rand) ([][]byte, greet.Params) {
	p := greet.Params{}
	for _, x := range []*uint64{&p.Idle, &p.Credit, &p.Window, &p.Bidi, &p.Uni, &p.Gram} {
		*x = 1 + random.Uint64N(api.MaxNum)>>random.IntN(62)
	}
	return [][]byte{
		greet.Params{Idle: p.Idle}.Bytes(),
		greet.Params{Credit: p.Credit}.Bytes(),
		greet.Params{Window: p.Window}.Bytes(),
		greet.Params{Bidi: p.Bidi}.Bytes(),
		greet.Params{Uni: p.Uni}.Bytes(),
		greet.Params{Gram: p.Gram}.Bytes(),
	}, p
}

// In every order, and with others between them.
func TestReadParamsInAnyOrder(t *testing.T) {
	random := rand.New(rand.NewPCG(1, 13))
	for range 500 {
		pairs, want := pairsOf(random)
		if !bytes.Equal(slices.Concat(pairs...), want.Bytes()) {
			t.Fatalf("Bytes of %+v isn't its pairs", want)
		}
		checkRead(t, want.Bytes(), want, api.OK)
		others := [][]byte{{0, 0}, {2, 2, 0xff, 0xff}, {3, 1, 0x40}, {0x21, 3, 1, 2, 3}, {0x40, 0x40, 1, 7}, append([]byte{5}, vint.Text(pattern(100))...)}
		pairs = append(pairs, others[:random.IntN(len(others)+1)]...)
		random.Shuffle(len(pairs), func(i, j int) { pairs[i], pairs[j] = pairs[j], pairs[i] })
		checkRead(t, slices.Concat(pairs...), want, api.OK)
	}
}

// What does not occur is 0; what occurs may be 0, too.
func TestReadParamsOfSome(t *testing.T) {
	checkRead(t, nil, greet.Params{}, api.OK)
	checkRead(t, []byte{}, greet.Params{}, api.OK)
	checkRead(t, unhex("010100"), greet.Params{}, api.OK)
	checkRead(t, unhex("200100090107"), greet.Params{Uni: 7}, api.OK)
	checkRead(t, unhex("0000"), greet.Params{}, api.OK)
	checkRead(t, unhex("ffffffffffffffff00"), greet.Params{}, api.OK)
}

// The identifier, the length and the number may have any encoding.
func TestReadParamsOfAnyEncoding(t *testing.T) {
	for _, a := range []int{1, 2, 4, 8} {
		for _, b := range []int{1, 2, 4, 8} {
			for _, c := range []int{1, 2, 4, 8} {
				id, _ := vint.Wide(0x20, a)
				size, _ := vint.Wide(uint64(c), b)
				n, _ := vint.Wide(37, c)
				checkRead(t, slices.Concat(id, size, n), greet.Params{Gram: 37}, api.OK)
			}
		}
	}
}

func TestReadParamsTwice(t *testing.T) {
	for _, id := range []string{"00", "01", "02", "04", "06", "08", "09", "20", "21", "4100", "ffffffffffffffff"} {
		for _, between := range []string{"", "0301aa", "070105"} {
			checkRead(t, unhex(id+"0105"+between+id+"0105"), greet.Params{}, api.ErrForm)
			checkRead(t, unhex(id+"0100"+between+id+"0106"), greet.Params{}, api.ErrForm)
		}
	}
	checkRead(t, unhex("0101054001"+"0105"), greet.Params{}, api.ErrForm)
	checkRead(t, unhex("c0000000000000050005"+"00"), greet.Params{}, api.ErrForm)
	checkRead(t, unhex("010105"+"0300"+"0300"), greet.Params{}, api.ErrForm)
}

// Every cut that is not between two pairs.
func TestReadParamsIncomplete(t *testing.T) {
	whole := greet.Params{Idle: 5, Credit: 300, Window: 70000, Bidi: 1 << 40, Uni: 1, Gram: 9}.Bytes()
	whole = append(whole, unhex("4100"+"4003"+"aabbcc")...)
	ends := map[int]bool{}
	for i := 0; i < len(whole); {
		ends[i] = true
		if whole[i] == 0x41 {
			break
		}
		i += 2 + int(whole[i+1])
	}
	for i := range whole {
		p, e := greet.ReadParams(whole[:i])
		if ends[i] && e != api.OK || !ends[i] && (e != api.ErrForm || p != greet.Params{}) {
			t.Errorf("ReadParams(%x) = %+v, %d", whole[:i], p, e)
		}
	}
	checkRead(t, unhex("03ffffffffffffffff00"), greet.Params{}, api.ErrForm)
}

// The text for one of the six is exactly one number.
func TestReadParamsOfNoNumber(t *testing.T) {
	for _, id := range []string{"01", "04", "06", "08", "09", "20"} {
		for _, text := range []string{"00", "020505", "0140", "03400505", "03800000", "058000000500", "07c0000000000000", "09c00000000000000500"} {
			checkRead(t, unhex(id+text), greet.Params{}, api.ErrForm)
			checkRead(t, unhex("0300"+id+text), greet.Params{}, api.ErrForm)
		}
	}
}

func TestReadParamsOfMany(t *testing.T) {
	var b []byte
	for i := range uint64(100000) {
		n, _ := vint.Num(i + 0x21)
		b = append(append(b, n...), 0)
	}
	checkRead(t, b, greet.Params{}, api.OK)
	checkRead(t, append(b, 0x20, 1, 9), greet.Params{Gram: 9}, api.OK)
	checkRead(t, append(b, 0x21, 0), greet.Params{}, api.ErrForm)
}
