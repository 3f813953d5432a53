package salt_test

import (
	"bytes"
	"math"
	"math/rand/v2"
	"testing"

	"colonnade/api"
	"colonnade/salt"
)

// The blocks of RFC 8439: 2.3.2, A.1, and the beginnings of 2.6.2 and A.4.
func TestStreamVectors(t *testing.T) {
	for _, x := range []struct {
		key   [32]byte
		nonce string
		from  uint32
		want  string
	}{
		{rising(0), "000000090000004a00000000", 1, "10f1e7e4d13b5915500fdd1fa32071c4c7d1f4c733c068030422aa9ac3d46c4ed2826446079faa0914c2d705d98b02a2b5129cd1de164eb9cbd083e8a2503c4e"},
		{key32(""), "", 0, "76b8e0ada0f13d90405d6ae55386bd28bdd219b8a08ded1aa836efcc8b770dc7da41597c5157488d7724e03fb8d84a376a43b8f41518a11cc387b669b2ee6586"},
		{key32(""), "", 1, "9f07e7be5551387a98ba977c732d080dcb0f29a048e3656912c6533e32ee7aed29b721769ce64e43d57133b074d839d531ed1f28510afb45ace10a1f4b794d6f"},
		{key32("01"), "", 1, "3aeb5224ecf849929b9d828db1ced4dd832025e8018b8160b82284f3c949aa5a8eca00bbb4a73bdad192b5c42f73f2fd4e273644c8b36125a64addeb006c13a0"},
		{[32]byte{1: 0xff}, "", 2, "72d54dfbf12ec44b362692df94137f328fea8da73990265ec1bbbea1ae9af0ca13b25aa26cb4a648cb9b9d1be65b2c0924a66c54d545ec1b7374f4872e99f096"},
		{key32(""), "02", 0, "c2c64d378cd536374ae204b9ef933fcd1a8b2288b3dfa49672ab765b54ee27c78a970e0e955c14f3a88e741b97c286f75f8fc299e8148362fa198a39531bed6d"},
		{rising(0x80), "0001020304050607", 0, "8ad5a08b905f81cc815040274ab29471a833b637e3fd0da508dbb8e2fdd1a646"},
		{key32("01"), "02", 0, "ecfa254f845f647473d3cb140da9e87606cb33066c447b87bc2666dde3fbb739"},
		{key32(rfcKey), "02", 0, "965e3bc6f9ec7ed9560808f4d229f94b137ff275ca9b3fcbdd59deaad23310ae"},
	} {
		p, e := salt.Stream(x.key, nonce12(x.nonce), x.from, len(x.want)/2)
		checkHex(t, "Stream", p, x.want)
		if e != api.OK {
			t.Errorf("Stream: %d", e)
		}
	}
}

// The texts that RFC 8439 encrypts in 2.4.2 and A.2.
func TestStreamOfTexts(t *testing.T) {
	for _, x := range []struct {
		key   [32]byte
		nonce string
		from  uint32
		text  string
		want  string
	}{
		{rising(0), "4a00000000", 1, sunscreen, "6e2e359a2568f98041ba0728dd0d6981e97e7aec1d4360c20a27afccfd9fae0bf91b65c5524733ab8f593dabcd62b3571639d624e65152ab8f530c359f0861d807ca0dbf500d6a6156a38e088a22b65e52bc514d16ccf806818ce91ab77937365af90bbf74a35be6b40b8eedf2785e42874d"},
		{key32("01"), "02", 1, submission, "a3fbf07df3fa2fde4f376ca23e82737041605d9f4f4f57bd8cff2c1d4b7955ec2a97948bd3722915c8f3d337f7d370050e9e96d647b7c39f56e031ca5eb6250d4042e02785ececfa4b4bb5e8ead0440e20b6e8db09d881a7c6132f420e52795042bdfa7773d8a9051447b3291ce1411c680465552aa6c405b7764d5e87bea85ad00f8449ed8f72d0d662ab052691ca66424bc86d2df80ea41f43abf937d3259dc4b2d0dfb48a6c9139ddd7f76966e928e635553ba76c5c879d7b35d49eb2e62b0871cdac638939e25e8a1e0ef9d5280fa8ca328b351c3c765989cbcf3daa8b6ccc3aaf9f3979c92b3720fc88dc95ed84a1be059c6499b9fda236e7e818b04b0bc39c1e876b193bfe5569753f88128cc08aaa9b63d1a16f80ef2554d7189c411f5869ca52c5b83fa36ff216b9c1d30062bebcfd2dc5bce0911934fda79a86f6e698ced759c3ff9b6477338f3da4f9cd8514ea9982ccafb341b2384dd902f3d1ab7ac61dd29c6f21ba5b862f3730e37cfdc4fd806c22f221"},
		{key32(rfcKey), "02", 42, jabberwocky, "62e6347f95ed87a45ffae7426f27a1df5fb69110044c0d73118effa95b01e5cf166d3df2d721caf9b21e5fb14c616871fd84c54f9d65b283196c7fe4f60553ebf39c6402c42234e32a356b3e764312a61a5532055716ead6962568f87d3f3f7704c6a8d1bcd1bf4d50d6154b6da731b187b58dfd728afa36757a797ac188d1"},
	} {
		p, e := salt.Stream(x.key, nonce12(x.nonce), x.from, len(x.text))
		if e != api.OK {
			t.Fatalf("Stream: %d", e)
		}
		checkHex(t, "a text", xor([]byte(x.text), p), x.want)
	}
}

func TestStreamOfEveryLength(t *testing.T) {
	key, nonce := rising(9), nonce12("0102030405060708090a0b0c")
	want := streamOf(key, nonce, 5, 65536)
	lengths := []int{1000, 4095, 4096, 16384, 65471, 65472, 65473, 65535, 65536}
	for n := range 4*64 + 2 {
		lengths = append(lengths, n)
	}
	for _, n := range lengths {
		p, e := salt.Stream(key, nonce, 5, n)
		if e != api.OK || !bytes.Equal(p, want[:n]) {
			t.Errorf("Stream of %d bytes: %d bytes, %d", n, len(p), e)
		}
	}
}

// Block 0 follows the largest block number.
func TestStreamOfLastBlocks(t *testing.T) {
	key, nonce := rising(1), nonce12("ffffffff00000000ffffffff")
	for _, from := range []uint32{0, 1, 255, 256, 65535, 65536, 1<<31 - 1, 1 << 31, math.MaxUint32 - 2, math.MaxUint32 - 1, math.MaxUint32} {
		for _, n := range []int{0, 1, 63, 64, 65, 128, 129, 300} {
			p, e := salt.Stream(key, nonce, from, n)
			if e != api.OK || !bytes.Equal(p, streamOf(key, nonce, from, n)) {
				t.Errorf("Stream of %d bytes from block %d is wrong (%d)", n, from, e)
			}
		}
	}
	last, _ := salt.Stream(key, nonce, math.MaxUint32, 64)
	first, _ := salt.Stream(key, nonce, 0, 200)
	if p, _ := salt.Stream(key, nonce, math.MaxUint32, 264); !bytes.Equal(p, append(last, first...)) {
		t.Error("block 0 doesn't follow the last one")
	}
	// All blocks of the longest result, the last number among them.
	from := uint32(math.MaxUint32 - 500)
	if p, e := salt.Stream(key, nonce, from, 65536); e != api.OK || !bytes.Equal(p, streamOf(key, nonce, from, 65536)) {
		t.Errorf("Stream of 65536 bytes from block %d is wrong (%d)", from, e)
	}
}

// Every bit of the key, the nonce and the block's number matters.
func TestStreamOfEveryBit(t *testing.T) {
	seen := map[[64]byte]int{}
	note := func(key [32]byte, nonce [12]byte, from uint32) {
		p, e := salt.Stream(key, nonce, from, 64)
		if e != api.OK || !bytes.Equal(p, blockOf(key, nonce, from)) {
			t.Errorf("Stream(%x, %x, %d, 64) = %x, %d", key, nonce, from, p, e)
			return
		}
		seen[[64]byte(p)]++
	}
	note([32]byte{}, [12]byte{}, 0)
	for i := range 8 * 32 {
		var key [32]byte
		key[i/8] = 1 << (i % 8)
		note(key, [12]byte{}, 0)
	}
	for i := range 8 * 12 {
		var nonce [12]byte
		nonce[i/8] = 1 << (i % 8)
		note([32]byte{}, nonce, 0)
	}
	for i := range 32 {
		note([32]byte{}, [12]byte{}, 1<<i)
	}
	if len(seen) != 1+8*32+8*12+32 {
		t.Errorf("there are %d blocks", len(seen))
	}
}

func TestStreamOfWrongLength(t *testing.T) {
	for _, x := range []struct {
		n int
		e api.Errno
	}{
		{-1, api.ErrArg}, {-64, api.ErrArg}, {-65536, api.ErrArg}, {-65537, api.ErrArg}, {math.MinInt32, api.ErrArg}, {math.MinInt, api.ErrArg},
		{65537, api.ErrLong}, {65600, api.ErrLong}, {1 << 17, api.ErrLong}, {1 << 32, api.ErrLong}, {1<<32 + 1, api.ErrLong}, {math.MaxInt, api.ErrLong},
	} {
		for _, from := range []uint32{0, 1, math.MaxUint32} {
			if p, e := salt.Stream(rising(0), nonce12("01"), from, x.n); e != x.e || len(p) != 0 {
				t.Errorf("Stream of %d bytes from block %d: %d bytes, %d; want %d", x.n, from, len(p), e, x.e)
			}
		}
	}
}

// RFC 9001, A.5.
func TestMaskVector(t *testing.T) {
	key := key32("25a282b9e82f06f21f488917a4fc8f1b73573685608597d0efcb076b0ab7a7a4")
	mask := salt.Mask(key, [16]byte(unhex("5e5cd55c41f69080575d7999c25a5bfb")))
	checkHex(t, "Mask", mask[:], "aefefe7d03")
}

func TestMask(t *testing.T) {
	random := rand.New(rand.NewPCG(1, 2))
	samples := [][16]byte{{}, {1}, {3: 1}, {4: 1}, {15: 1}, {0xff, 0xff, 0xff, 0xff}, {0, 0, 0, 0x80}, [16]byte(bytes.Repeat([]byte{0xff}, 16))}
	for range 300 {
		var sample [16]byte
		for i := range sample {
			sample[i] = byte(random.Uint32())
		}
		samples = append(samples, sample)
	}
	for i, sample := range samples {
		key := rising(byte(i))
		block := uint32(sample[0]) + uint32(sample[1])*256 + uint32(sample[2])*65536 + uint32(sample[3])*16777216
		want := [5]byte(blockOf(key, [12]byte(sample[4:]), block))
		if mask := salt.Mask(key, sample); mask != want {
			t.Errorf("Mask(%x, %x) = %x; want %x", key, sample, mask, want)
		}
		p, e := salt.Stream(key, [12]byte(sample[4:]), block, 5)
		if e != api.OK || [5]byte(p) != want {
			t.Errorf("Stream and Mask differ for %x", sample)
		}
	}
}
