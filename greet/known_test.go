package greet_test

import (
	"testing"

	"colonnade/api"
	"colonnade/greet"
)

// known is a handshake that another implementation worked out.
type known struct {
	client, server                         greet.Config
	hello, answer, terms, server2, client2 string // the last two are the Finished of each
	handshake, app                         [2]string
}

func knownHandshakes() []known {
	return []known{
		{
			client:  greet.Config{Identity: []byte("id"), Secret: []byte("secret"), Params: unhex("010105"), Random: [32]byte(unhex("000102030405060708090a0b0c0d0e0f101112131415161718191a1b1c1d1e1f"))},
			server:  greet.Config{Server: true, Identity: []byte("id"), Secret: []byte("secret"), Params: unhex("20020040"), Random: [32]byte(unhex("808182838485868788898a8b8c8d8e8f909192939495969798999a9b9c9d9e9f"))},
			hello:   "01000047000102030405060708090a0b0c0d0e0f101112131415161718191a1b1c1d1e1f02696403010105f0fe7e1f38c7f1699f55ad98b9bed9e184aa9cb1352ab455ab4e6fc9a4eefd26",
			answer:  "02000020808182838485868788898a8b8c8d8e8f909192939495969798999a9b9c9d9e9f",
			terms:   "080000050420020040",
			server2: "140000209c57901823e9536e3b5c30162a3d58f89730faae4bb1ca9822d93faad4f4516a",
			client2: "140000205f1d904c0b86685f9313227fc870ddd24374975bb99e85c093492a3eba7efbab",
			handshake: [2]string{
				"cfd03d5db382fb900aecc6a6e6f0a8c977dac0afecf783e64344bf60b836f60e",
				"3409719468cd201162c9d0e399b18849af00809ec98a8fdafdd0b60e875ff319",
			},
			app: [2]string{
				"45821e1139ce2a466c1be4f403c4353612a66dfdaa0b4303929cec15a20d9a2d",
				"d7f46128e5c7a7c4c792fc8c41e01e79ffcfb576ac792a6843aa65f838f7b653",
			},
		},
		{
			server:  greet.Config{Server: true},
			hello:   "010000420000000000000000000000000000000000000000000000000000000000000000000045b4193a06d79635c31a8e08072f3ec7f0a4cbe7d6b432b523743adac5af27e0",
			answer:  "020000200000000000000000000000000000000000000000000000000000000000000000",
			terms:   "0800000100",
			server2: "14000020438fbd57b0ca2c287b46e31a1536272974e87e62a12f5fc3be9476ce38edb3e6",
			client2: "14000020f741a6c611ba96c889f9d6562df6090c94442c4294f05da76889319acbdb02eb",
			handshake: [2]string{
				"1c8181f7b808a25d29e99e74cade1b93459e77a6b9c16100f096fddf02b42252",
				"6605f2d7ae15b5bc7b7c76926eed08bb6da4396f2baec731cbce4e7902711623",
			},
			app: [2]string{
				"7da699f4e75102ebf2fc5bb6fd82b83c7b8410ac79effa07411ed5b64f0bcb66",
				"475762e1eba674506f9e76cab3139cbf2e509fe821135337ae5a4a7e918bff50",
			},
		},
	}
}

func pairOf(l [2]string) *[2][32]byte {
	return &[2][32]byte{[32]byte(unhex(l[0])), [32]byte(unhex(l[1]))}
}

// What each side says, and when there are secrets, parameters and an end.
func TestKnownHandshakes(t *testing.T) {
	for _, x := range knownHandshakes() {
		handshake, app := pairOf(x.handshake), pairOf(x.app)
		theirs, ours := append([]byte{}, x.client.Params...), append([]byte{}, x.server.Params...)

		a, b := greet.New(x.client), greet.New(x.server)
		checkState(t, a, nil, nil, nil, false)
		checkState(t, b, nil, nil, nil, false)
		checkOut(t, b, nil, nil)
		checkOut(t, a, unhex(x.hello), nil)
		checkOut(t, a, nil, nil)

		checkHear(t, b, api.Initial, unhex(x.hello), 0)
		checkState(t, b, handshake, app, theirs, false)
		checkOut(t, b, unhex(x.answer), unhex(x.terms+x.server2))
		checkOut(t, b, nil, nil)
		checkState(t, b, handshake, app, theirs, false)

		checkHear(t, a, api.Initial, unhex(x.answer), 0)
		checkState(t, a, handshake, nil, nil, false)
		checkOut(t, a, nil, nil)
		checkHear(t, a, api.Handshake, unhex(x.terms), 0)
		checkState(t, a, handshake, nil, ours, false)
		checkOut(t, a, nil, nil)
		checkHear(t, a, api.Handshake, unhex(x.server2), 0)
		checkState(t, a, handshake, app, ours, true)
		checkOut(t, a, nil, unhex(x.client2))
		checkOut(t, a, nil, nil)

		checkHear(t, b, api.Handshake, unhex(x.client2), 0)
		checkState(t, b, handshake, app, theirs, true)
		checkOut(t, b, nil, nil)
	}
}
