package parcel_test

import (
	"bytes"
	"crypto/hkdf"
	"crypto/sha256"
	"encoding/hex"
	"testing"

	"colonnade/parcel"
)

// knownSecrets are secrets with their keys and the secrets after them; the last is of RFC 9001, A.5.
var knownSecrets = []struct{ secret, key, nonce, mask, next string }{
	{
		"c00cf151ca5be075ed0ebfb5c80323c42d6b7db67881289af4008f1f6c357aea",
		"9f81a6a9be9eaa9bdebb3ceba916a2c23d29d6fa91ac3cfb9804c56e41a654a5",
		"fa044b2f42a3fd3b46fb255c",
		"e9c80d02fcfb9ad0557fb8a9eb09aebf075d0edf57f253a616d64198d789f31c",
		"4428ffa195ad665b9ebf9456945b99e8ff848512cab93d0426436409047d666c",
	},
	{
		"3c199828fd139efd216c155ad844cc81fb82fa8d7446fa7d78be803acdda951b",
		"c748405a6c10f260b01f2f0b391b0c6993258037ed7bc5872a014f1ecab433c9",
		"0ac1493ca1905853b0bba03e",
		"a813a2b07d7cef4ff0f1fe0384fd85c2175ceb6bd0aea0257fa958babb3b0764",
		"ae372bd4e82a5284eac04299b656bf1a0f8aafb43fe9dc4937fa071c81379756",
	},
	{
		rfcSecret,
		"c6d98ff3441c3fe1b2182094f69caa2ed4b716b65488960a7a984979fb23e1c8",
		"e0459b3474bdd0e44a41c144",
		"25a282b9e82f06f21f488917a4fc8f1b73573685608597d0efcb076b0ab7a7a4",
		"1223504755036d556342ee9361d253421a826c9ecdf3c7148684b36b714881f9",
	},
}

func checkHex(t *testing.T, what string, got []byte, want string) {
	t.Helper()
	if hex.EncodeToString(got) != want {
		t.Errorf("%s = %x; want %s", what, got, want)
	}
}

func TestDraw(t *testing.T) {
	for _, x := range knownSecrets {
		k := parcel.Draw([32]byte(unhex(x.secret)))
		checkHex(t, "the key", k.Key[:], x.key)
		checkHex(t, "the nonce", k.Nonce[:], x.nonce)
		checkHex(t, "the mask", k.Mask[:], x.mask)
	}
	if parcel.Draw([32]byte{}) == parcel.Draw([32]byte{31: 1}) {
		t.Error("Draw doesn't depend on the last byte of the secret")
	}
}

func TestNext(t *testing.T) {
	for _, x := range knownSecrets {
		next := parcel.Next([32]byte(unhex(x.secret)))
		checkHex(t, "the next secret", next[:], x.next)
	}
}

// The key and the nonce are the secret's, the mask is the one there was.
func TestTurn(t *testing.T) {
	for _, x := range knownSecrets {
		k := parcel.Keys{Key: [32]byte{1}, Nonce: [12]byte{2}, Mask: [32]byte{3, 31: 4}}
		before := k
		turned := parcel.Turn(k, [32]byte(unhex(x.secret)))
		checkHex(t, "the turned key", turned.Key[:], x.key)
		checkHex(t, "the turned nonce", turned.Nonce[:], x.nonce)
		if turned.Mask != k.Mask {
			t.Errorf("the turned mask is %x", turned.Mask)
		}
		if k != before {
			t.Error("Turn changes its argument")
		}
	}
}

// Keys are turned again and again, and the mask stays.
func TestTurnChain(t *testing.T) {
	secret := [32]byte(unhex(rfcSecret))
	first := parcel.Draw(secret)
	k := first
	seen := map[[32]byte]bool{k.Key: true}
	for range 20 {
		secret = parcel.Next(secret)
		k = parcel.Turn(k, secret)
		drawn := parcel.Draw(secret)
		if k.Mask != first.Mask || k.Key != drawn.Key || k.Nonce != drawn.Nonce || seen[k.Key] {
			t.Fatal("a turned key is wrong")
		}
		seen[k.Key] = true
	}
}

// The secrets of RFC 9001, A.1.
func TestFirst(t *testing.T) {
	client, server := parcel.First(unhex(rfcName))
	checkHex(t, "the client's secret", client[:], knownSecrets[0].secret)
	checkHex(t, "the server's secret", server[:], knownSecrets[1].secret)
}

// firstOf works a first secret out with the library.
func firstOf(t *testing.T, name []byte, label string) []byte {
	t.Helper()
	initial, err := hkdf.Extract(sha256.New, name, unhex("38762cf7f55934b34d179ae6a4c80cadccbb7f0a"))
	if err != nil {
		t.Fatal(err)
	}
	label = "tls13 " + label
	info := "\x00\x20" + string(rune(len(label))) + label + "\x00"
	secret, err := hkdf.Expand(sha256.New, initial, info, 32)
	if err != nil {
		t.Fatal(err)
	}
	return secret
}

func TestFirstOfAnyName(t *testing.T) {
	for _, n := range []int{0, 1, 7, 8, 9, 20, 21, 64, 65, 300} {
		name := pattern(n)
		client, server := parcel.First(name)
		if !bytes.Equal(client[:], firstOf(t, name, "client in")) || !bytes.Equal(server[:], firstOf(t, name, "server in")) {
			t.Errorf("First of %d bytes is wrong", n)
		}
	}
	nilClient, nilServer := parcel.First(nil)
	client, server := parcel.First([]byte{})
	if nilClient != client || nilServer != server {
		t.Error("First tells nil from an empty name")
	}
}
