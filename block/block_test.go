package block_test

import (
	"bytes"
	"crypto/aes"
	"math/rand"
	"testing"

	"tollgate/api"
	"tollgate/block"
	"tollgate/sample"
)

func made(t *testing.T, key []byte) *block.Key {
	t.Helper()
	k, e := block.New(key)
	if e != api.OK || k == nil {
		t.Fatalf("a key of %d bytes: error %d", len(key), e)
	}
	return k
}

// cipherOf is what Seal must answer.
func cipherOf(t *testing.T, key []byte, b [16]byte) [16]byte {
	t.Helper()
	c, err := aes.NewCipher(key)
	if err != nil {
		t.Fatal(err)
	}
	c.Encrypt(b[:], b[:])
	return b
}

// plainOf is what Open must answer.
func plainOf(t *testing.T, key []byte, b [16]byte) [16]byte {
	t.Helper()
	c, err := aes.NewCipher(key)
	if err != nil {
		t.Fatal(err)
	}
	c.Decrypt(b[:], b[:])
	return b
}

// agree holds a block, turned and turned back, against Go's library, and each against the other.
func agree(t *testing.T, key []byte, b [16]byte) {
	t.Helper()
	k := made(t, key)
	sealed, opened := k.Seal(b), k.Open(b)
	if sealed != cipherOf(t, key, b) {
		t.Errorf("by %x: Seal of %x: %x", key, b, sealed)
	}
	if opened != plainOf(t, key, b) {
		t.Errorf("by %x: Open of %x: %x", key, b, opened)
	}
	if k.Open(sealed) != b || k.Seal(opened) != b {
		t.Errorf("by %x: %x isn't turned back", key, b)
	}
}

// The examples of FIPS 197 and of SP 800-38A.
func TestKnownBlocks(t *testing.T) {
	for _, c := range []struct{ key, plain, sealed string }{
		{"000102030405060708090a0b0c0d0e0f", "00112233445566778899aabbccddeeff", "69c4e0d86a7b0430d8cdb78070b4c55a"},
		{"000102030405060708090a0b0c0d0e0f101112131415161718191a1b1c1d1e1f",
			"00112233445566778899aabbccddeeff", "8ea2b7ca516745bfeafc49904b496089"},
		{"2b7e151628aed2a6abf7158809cf4f3c", "3243f6a8885a308d313198a2e0370734", "3925841d02dc09fbdc118597196a0b32"},
		{"2b7e151628aed2a6abf7158809cf4f3c", "6bc1bee22e409f96e93d7e117393172a", "3ad77bb40d7a3660a89ecaf32466ef97"},
		{"2b7e151628aed2a6abf7158809cf4f3c", "ae2d8a571e03ac9c9eb76fac45af8e51", "f5d3d58503b9699de785895a96fdbaaf"},
		{"2b7e151628aed2a6abf7158809cf4f3c", "30c81c46a35ce411e5fbc1191a0a52ef", "43b1cd7f598ece23881b00e3ed030688"},
		{"2b7e151628aed2a6abf7158809cf4f3c", "f69f2445df4f9b17ad2b417be66c3710", "7b0c785e27e8ad3f8223207104725dd4"},
		{"603deb1015ca71be2b73aef0857d77811f352c073b6108d72d9810a30914dff4",
			"6bc1bee22e409f96e93d7e117393172a", "f3eed1bdb5d2a03c064b5a7e3db181f8"},
		{"603deb1015ca71be2b73aef0857d77811f352c073b6108d72d9810a30914dff4",
			"ae2d8a571e03ac9c9eb76fac45af8e51", "591ccb10d410ed26dc5ba74a31362870"},
		{"603deb1015ca71be2b73aef0857d77811f352c073b6108d72d9810a30914dff4",
			"30c81c46a35ce411e5fbc1191a0a52ef", "b6ed21b99ca6f4f9f153e7b1beafed1d"},
		{"603deb1015ca71be2b73aef0857d77811f352c073b6108d72d9810a30914dff4",
			"f69f2445df4f9b17ad2b417be66c3710", "23304b7a39f9f3ff067d8d8f9e24ecc7"},
	} {
		k := made(t, sample.Bytes(t, c.key))
		plain, sealed := [16]byte(sample.Bytes(t, c.plain)), [16]byte(sample.Bytes(t, c.sealed))
		if got := k.Seal(plain); got != sealed {
			t.Errorf("by %s: Seal of %s: %x, not %s", c.key, c.plain, got, c.sealed)
		}
		if got := k.Open(sealed); got != plain {
			t.Errorf("by %s: Open of %s: %x, not %s", c.key, c.sealed, got, c.plain)
		}
	}
}

// A block of one byte again and again, and a key of it: each byte is substituted at each place.
func TestEveryByte(t *testing.T) {
	for x := range 256 {
		b := [16]byte(bytes.Repeat([]byte{byte(x)}, 16))
		for _, n := range []int{16, 32} {
			agree(t, make([]byte, n), b)
			agree(t, bytes.Repeat([]byte{byte(x)}, n), [16]byte{})
			agree(t, sample.Filled(n, x), b)
		}
	}
}

func TestEveryBit(t *testing.T) {
	for bit := range 128 {
		var b [16]byte
		b[bit/8] = 1 << (bit % 8)
		agree(t, make([]byte, 16), b)
		agree(t, make([]byte, 32), b)
	}
	for _, n := range []int{16, 32} {
		for bit := range 8 * n {
			key := make([]byte, n)
			key[bit/8] = 1 << (bit % 8)
			agree(t, key, [16]byte{})
		}
	}
}

func TestAnyKeyAndBlock(t *testing.T) {
	r := rand.New(rand.NewSource(1))
	for range 2000 {
		var b [16]byte
		r.Read(b[:])
		for _, n := range []int{16, 32} {
			key := make([]byte, n)
			r.Read(key)
			agree(t, key, b)
		}
	}
}

// A block turned a thousand times, and back again, either way round.
func TestTurnedAgainAndAgain(t *testing.T) {
	for _, n := range []int{16, 32} {
		key := sample.Filled(n, 1)
		k := made(t, key)
		first := [16]byte(sample.Filled(16, 2))
		sealed, wanted := first, first
		opened, wantedBack := first, first
		for range 1000 {
			sealed, wanted = k.Seal(sealed), cipherOf(t, key, wanted)
			opened, wantedBack = k.Open(opened), plainOf(t, key, wantedBack)
		}
		if sealed != wanted || opened != wantedBack {
			t.Errorf("by a key of %d bytes: %x, %x", n, sealed, opened)
		}
		for range 1000 {
			sealed, opened = k.Open(sealed), k.Seal(opened)
		}
		if sealed != first || opened != first {
			t.Errorf("by a key of %d bytes, back again: %x, %x", n, sealed, opened)
		}
	}
}

func TestKeysOfOtherSizes(t *testing.T) {
	sizes := []int{16 + 256, 32 + 256, 511, 512, 1 << 16, 1<<16 + 16, 1<<16 + 32}
	for n := range 300 {
		if n != 16 && n != 32 {
			sizes = append(sizes, n)
		}
	}
	for _, n := range sizes {
		if k, e := block.New(sample.Filled(n, 3)); e != api.ErrArg || k != nil {
			t.Errorf("a key of %d bytes: %v, error %d", n, k, e)
		}
	}
	if k, e := block.New(nil); e != api.ErrArg || k != nil {
		t.Errorf("no key: %v, error %d", k, e)
	}
}

func TestNilKey(t *testing.T) {
	var k *block.Key
	for _, b := range [][16]byte{{}, {1}, [16]byte(sample.Filled(16, 4))} {
		if k.Seal(b) != [16]byte{} || k.Open(b) != [16]byte{} {
			t.Errorf("a nil key turns %x", b)
		}
	}
}

func TestKeysAreApart(t *testing.T) {
	keys := [][]byte{sample.Filled(16, 5), sample.Filled(32, 5), sample.Filled(16, 6), sample.Filled(32, 6)}
	// The first half of a longer key is a key of its own.
	keys = append(keys, keys[1][:16])
	var ready []*block.Key
	for _, key := range keys {
		ready = append(ready, made(t, key))
	}
	for seed := range 50 {
		b := [16]byte(sample.Filled(16, seed))
		for i, k := range ready {
			if k.Seal(b) != cipherOf(t, keys[i], b) || k.Open(b) != plainOf(t, keys[i], b) {
				t.Errorf("key %d, block %d", i, seed)
			}
		}
	}
}

func TestKeyIsNotKeptOrChanged(t *testing.T) {
	b := [16]byte(sample.Filled(16, 7))
	for _, n := range []int{16, 32} {
		key := sample.Filled(n, 8)
		handed := sample.Roomy(key)
		k := made(t, handed)
		sample.Unchanged(t, "the key", handed, key)
		if k.Seal(b) != cipherOf(t, key, b) || k.Open(b) != plainOf(t, key, b) {
			t.Errorf("a key of %d bytes, with spare room", n)
		}
		sample.Unchanged(t, "the key, by its turns", handed, key)
		clear(handed[:cap(handed)])
		if k.Seal(b) != cipherOf(t, key, b) || k.Open(b) != plainOf(t, key, b) {
			t.Errorf("a key of %d bytes was kept", n)
		}
	}
	for n := range 64 {
		key := sample.Filled(n, 9)
		handed := sample.Roomy(key)
		block.New(handed)
		sample.Unchanged(t, "a key of any size", handed, key)
	}
}
