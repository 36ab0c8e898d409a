package gcm_test

import (
	"bytes"
	"crypto/aes"
	"crypto/cipher"
	"encoding/hex"
	"math/rand"
	"testing"

	"tollgate/api"
	"tollgate/gcm"
	"tollgate/sample"
)

func made(t *testing.T, key []byte) *gcm.Box {
	t.Helper()
	x, e := gcm.New(key)
	if e != api.OK || x == nil {
		t.Fatalf("a key of %d bytes: error %d", len(key), e)
	}
	return x
}

// sealedBy is what Seal must answer.
func sealedBy(t *testing.T, key []byte, nonce [12]byte, plain, beside []byte) []byte {
	t.Helper()
	c, err := aes.NewCipher(key)
	if err != nil {
		t.Fatal(err)
	}
	a, err := cipher.NewGCM(c)
	if err != nil {
		t.Fatal(err)
	}
	return a.Seal(nil, nonce[:], plain, beside)
}

func nonceOf(seed int) [12]byte { return [12]byte(sample.Filled(12, seed)) }

// agree holds Seal and Open against Go's library.
func agree(t *testing.T, key []byte, nonce [12]byte, plain, beside []byte) {
	t.Helper()
	x := made(t, key)
	want := sealedBy(t, key, nonce, plain, beside)
	if got := x.Seal(nonce, plain, beside); !bytes.Equal(got, want) {
		t.Errorf("a key of %d, %d bytes, %d beside: sealed otherwise", len(key), len(plain), len(beside))
	}
	if got, e := x.Open(nonce, want, beside); e != api.OK || !bytes.Equal(got, plain) {
		t.Errorf("a key of %d, %d bytes, %d beside: opened otherwise: error %d", len(key), len(plain), len(beside), e)
	}
}

func refused(t *testing.T, x *gcm.Box, nonce [12]byte, sealed, beside []byte, what string, at int) {
	t.Helper()
	if got, e := x.Open(nonce, sealed, beside); e != api.ErrMac || len(got) != 0 {
		t.Errorf("%s, %d: %d bytes, error %d", what, at, len(got), e)
	}
}

// The examples of the standard's first paper: its cases 1 to 4 and 13 to 16.
func TestKnownSeals(t *testing.T) {
	const (
		noughts = "00000000000000000000000000000000"
		key     = "feffe9928665731c6d6a8f9467308308"
		nonce   = "cafebabefacedbaddecaf888"
		plain   = "d9313225f88406e5a55909c5aff5269a86a7a9531534f7da2e4c303d8a318a72" +
			"1c3c0c95956809532fcf0e2449a6b525b16aedf5aa0de657ba637b39"
		last   = "1aafd255"
		beside = "feedfacedeadbeeffeedfacedeadbeefabaddad2"
		short  = "42831ec2217774244b7221b784d0d49ce3aa212f2c02a4e035c17e2329aca12e" +
			"21d514b25466931c7d8f6a5aac84aa051ba30b396a0aac973d58e091"
		long = "522dc1f099567d07f47f37a32a84427d643a8cdcbfe5c0c97598a2bd2555d1aa" +
			"8cb08e48590dbb3da7b08b1056828838c5f61e6393ba7a0abcc9f662"
	)
	for i, c := range []struct{ key, nonce, plain, beside, sealed string }{
		{noughts, noughts[:24], "", "", "58e2fccefa7e3061367f1d57a4e7455a"},
		{noughts, noughts[:24], noughts, "", "0388dace60b6a392f328c2b971b2fe78ab6e47d42cec13bdf53a67b21257bddf"},
		{key, nonce, plain + last, "", short + "473f5985" + "4d5c2af327cd64a62cf35abd2ba6fab4"},
		{key, nonce, plain, beside, short + "5bc94fbc3221a5db94fae95ae7121a47"},
		{noughts + noughts, noughts[:24], "", "", "530f8afbc74536b9a963b4f1c4cb738b"},
		{noughts + noughts, noughts[:24], noughts, "", "cea7403d4d606b6e074ec5d3baf39d18d0d1c8a799996bf0265b98b5d48ab919"},
		{key + key, nonce, plain + last, "", long + "898015ad" + "b094dac5d93471bdec1a502270e3cc6c"},
		{key + key, nonce, plain, beside, long + "76fc6ece0f4e1768cddf8853bb2d551b"},
	} {
		x := made(t, sample.Bytes(t, c.key))
		n, p, b := [12]byte(sample.Bytes(t, c.nonce)), sample.Bytes(t, c.plain), sample.Bytes(t, c.beside)
		if got := x.Seal(n, p, b); hex.EncodeToString(got) != c.sealed {
			t.Errorf("%d: %x, not %s", i, got, c.sealed)
		}
		if got, e := x.Open(n, sample.Bytes(t, c.sealed), b); e != api.OK || !bytes.Equal(got, p) {
			t.Errorf("%d: %x, error %d", i, got, e)
		}
	}
}

func TestSealOfEveryLength(t *testing.T) {
	for n := 0; n <= 130; n++ {
		for _, m := range []int{0, 1, 12, 13, 15, 16, 17, 31, 32, 33, 100} {
			for _, size := range []int{16, 32} {
				agree(t, sample.Filled(size, n), nonceOf(m), sample.Filled(n, 1), sample.Filled(m, 2))
				agree(t, sample.Filled(size, m), nonceOf(n), sample.Filled(m, 3), sample.Filled(n, 4))
			}
		}
	}
	x := made(t, sample.Filled(16, 5))
	for _, none := range [][]byte{nil, {}} {
		if !bytes.Equal(x.Seal(nonceOf(5), none, nil), x.Seal(nonceOf(5), nil, []byte{})) {
			t.Error("nil and empty bytes aren't the same")
		}
	}
}

func TestSealByAnyKeyAndNonce(t *testing.T) {
	r := rand.New(rand.NewSource(1))
	for range 300 {
		var nonce [12]byte
		r.Read(nonce[:])
		plain, beside := make([]byte, r.Intn(200)), make([]byte, r.Intn(60))
		r.Read(plain)
		r.Read(beside)
		for _, n := range []int{16, 32} {
			key := make([]byte, n)
			r.Read(key)
			agree(t, key, nonce, plain, beside)
		}
	}
	// A nonce whose bytes are all ones: the number behind it stays apart.
	agree(t, sample.Filled(16, 6), [12]byte(bytes.Repeat([]byte{0xFF}, 12)), sample.Filled(5000, 6), sample.Filled(5000, 7))
}

// The number behind the nonce goes over its first and its second byte.
func TestSealOfManyBlocks(t *testing.T) {
	for _, blocks := range []int{1, 253, 254, 255, 256, 65533, 65534, 65535, 66000} {
		agree(t, sample.Filled(16, 8), nonceOf(8), sample.Filled(16*blocks-3, 8), sample.Filled(20, 8))
	}
	agree(t, sample.Filled(32, 9), nonceOf(9), sample.Filled(100, 9), sample.Filled(1<<20, 9))
}

// More than 2^32 bits: their count takes more than four bytes.
func TestSealBesideManyBytes(t *testing.T) {
	key, plain, beside := sample.Filled(16, 10), []byte("abc"), sample.Filled(1<<29+1, 10)
	if !bytes.Equal(made(t, key).Seal(nonceOf(10), plain, beside), sealedBy(t, key, nonceOf(10), plain, beside)) {
		t.Error("sealed otherwise")
	}
}

func TestKeysOfOtherSizes(t *testing.T) {
	sizes := []int{16 + 256, 32 + 256, 511, 512, 1 << 16, 1<<16 + 16, 1<<16 + 32}
	for n := range 300 {
		if n != 16 && n != 32 {
			sizes = append(sizes, n)
		}
	}
	for _, n := range sizes {
		if x, e := gcm.New(sample.Filled(n, 11)); e != api.ErrArg || x != nil {
			t.Errorf("a key of %d bytes: %v, error %d", n, x, e)
		}
	}
	if x, e := gcm.New(nil); e != api.ErrArg || x != nil {
		t.Errorf("no key: %v, error %d", x, e)
	}
}

func TestNilBox(t *testing.T) {
	var x *gcm.Box
	for _, n := range []int{0, 1, 15, 16, 17, 40} {
		b := sample.Filled(n, 12)
		if sealed := x.Seal(nonceOf(12), b, b); len(sealed) != 0 {
			t.Errorf("a nil box seals %d bytes: %x", n, sealed)
		}
		if plain, e := x.Open(nonceOf(12), b, b); e != api.ErrArg || len(plain) != 0 {
			t.Errorf("a nil box opens %d bytes: %x, error %d", n, plain, e)
		}
	}
	if len(x.Seal([12]byte{}, nil, nil)) != 0 {
		t.Error("a nil box seals nothing")
	}
	if _, e := x.Open([12]byte{}, nil, nil); e != api.ErrArg {
		t.Errorf("a nil box opens nothing: error %d", e)
	}
}

func TestOpenOfTooFewBytes(t *testing.T) {
	for _, size := range []int{16, 32} {
		x := made(t, sample.Filled(size, 13))
		for _, n := range []int{0, 1, 16, 20} {
			sealed := x.Seal(nonceOf(13), sample.Filled(n, 13), nil)
			for i := range sealed {
				refused(t, x, nonceOf(13), sealed[:i], nil, "a beginning", i)
				refused(t, x, nonceOf(13), sealed[i+1:], nil, "an end", i)
			}
			refused(t, x, nonceOf(13), append(sealed, 0), nil, "a nought behind", n)
			refused(t, x, nonceOf(13), append([]byte{0}, sealed...), nil, "a nought ahead", n)
		}
		for n := range 16 {
			refused(t, x, nonceOf(13), make([]byte, n), nil, "noughts", n)
			refused(t, x, nonceOf(13), make([]byte, n), sample.Filled(30, 13), "noughts", n)
		}
		refused(t, x, nonceOf(13), nil, nil, "nothing", 0)
		// Sixteen bytes are just a tag, of no bytes.
		tag := sealedBy(t, sample.Filled(size, 13), nonceOf(14), nil, []byte("beside"))
		if plain, e := x.Open(nonceOf(14), tag, []byte("beside")); len(tag) != 16 || e != api.OK || len(plain) != 0 {
			t.Errorf("just a tag: %x, error %d", plain, e)
		}
		refused(t, x, nonceOf(14), make([]byte, 16), []byte("beside"), "sixteen noughts", 16)
	}
}

func TestOpenOfWhatWasChanged(t *testing.T) {
	for _, size := range []int{16, 32} {
		x := made(t, sample.Filled(size, 15))
		for _, n := range []int{0, 1, 15, 16, 17, 40} {
			nonce, beside := nonceOf(n), sample.Filled(n, 16)
			sealed := x.Seal(nonce, sample.Filled(n, 17), beside)
			for bit := range 8 * len(sealed) {
				other := bytes.Clone(sealed)
				other[bit/8] ^= 1 << (bit % 8)
				refused(t, x, nonce, other, beside, "a bit of what is sealed", bit)
			}
			for bit := range 8 * len(nonce) {
				other := nonce
				other[bit/8] ^= 1 << (bit % 8)
				refused(t, x, other, sealed, beside, "a bit of the nonce", bit)
			}
			for bit := range 8 * len(beside) {
				other := bytes.Clone(beside)
				other[bit/8] ^= 1 << (bit % 8)
				refused(t, x, nonce, sealed, other, "a bit of what is beside", bit)
			}
			for change := 1; change < 256; change++ {
				other := bytes.Clone(sealed)
				other[change%len(other)] ^= byte(change)
				refused(t, x, nonce, other, beside, "a byte of what is sealed", change)
			}
			if plain, e := x.Open(nonce, sealed, beside); e != api.OK || !bytes.Equal(plain, sample.Filled(n, 17)) {
				t.Errorf("%d bytes aren't opened any more: error %d", n, e)
			}
		}
	}
}

// Changes that make up for each other, if a tag's bytes were added, or put together by exclusive or.
func TestOpenOfTagsWithTwoChanges(t *testing.T) {
	x := made(t, sample.Filled(16, 18))
	sealed := x.Seal(nonceOf(18), []byte("plain"), []byte("beside"))
	for i := 5; i < len(sealed); i++ {
		for j := 5; j < i; j++ {
			other := bytes.Clone(sealed)
			other[i] ^= 0x80
			other[j] ^= 0x80
			refused(t, x, nonceOf(18), other, []byte("beside"), "two bits of the tag", i)
			other = bytes.Clone(sealed)
			other[i], other[j] = other[j], other[i]
			if other[i] != other[j] {
				refused(t, x, nonceOf(18), other, []byte("beside"), "two bytes of the tag, for each other", i)
			}
		}
	}
}

func TestOpenBesideOtherBytes(t *testing.T) {
	x := made(t, sample.Filled(16, 19))
	nonce := nonceOf(19)
	for n := 0; n <= 40; n++ {
		beside := sample.Filled(n, 19)
		sealed := x.Seal(nonce, []byte("plain"), beside)
		refused(t, x, nonce, sealed, append(bytes.Clone(beside), 0), "a nought more beside", n)
		if n > 0 {
			refused(t, x, nonce, sealed, beside[:n-1], "a byte less beside", n)
			refused(t, x, nonce, sealed, nil, "nothing beside", n)
		}
		refused(t, made(t, sample.Filled(16, 20)), nonce, sealed, beside, "another key", n)
		refused(t, made(t, sample.Filled(32, 19)), nonce, sealed, beside, "a longer key", n)
	}
	// What is beside and what is hidden aren't each other, even where all bytes together are the same.
	sealed := x.Seal(nonce, sample.Filled(16, 21), sample.Filled(16, 22))
	moved := append(sample.Filled(16, 22), sealed[:16]...)
	refused(t, x, nonce, sealed[16:], moved, "hidden bytes moved beside", 16)
	refused(t, x, nonce, append(sample.Filled(16, 22), sealed...), nil, "bytes moved from beside", 16)
}

func TestSealHangsOnNothingElse(t *testing.T) {
	x, y := made(t, sample.Filled(16, 23)), made(t, sample.Filled(32, 23))
	first, second := x.Seal(nonceOf(23), []byte("plain"), nil), y.Seal(nonceOf(23), []byte("plain"), nil)
	for seed := range 20 {
		x.Seal(nonceOf(seed), sample.Filled(seed, seed), nil)
		y.Open(nonceOf(seed), sample.Filled(20, seed), nil)
	}
	x.Open(nonceOf(23), first[:15], nil)
	if !bytes.Equal(x.Seal(nonceOf(23), []byte("plain"), nil), first) || !bytes.Equal(y.Seal(nonceOf(23), []byte("plain"), nil), second) {
		t.Error("what is sealed hangs on what was sealed ahead")
	}
	if bytes.Equal(first, second) {
		t.Error("two boxes seal the same")
	}
}

func TestNothingIsKeptOrChanged(t *testing.T) {
	for _, n := range []int{0, 1, 15, 16, 17, 40, 64} {
		for _, size := range []int{16, 32} {
			key, plain, beside := sample.Filled(size, 24), sample.Filled(n, 25), sample.Filled(n, 26)
			k, p, b := sample.Roomy(key), sample.Roomy(plain), sample.Roomy(beside)
			x := made(t, k)
			sealed := x.Seal(nonceOf(24), p, b)
			want := sealedBy(t, key, nonceOf(24), plain, beside)
			s := sample.Roomy(sealed)
			opened, e := x.Open(nonceOf(24), s, b)
			x.Open(nonceOf(25), s, b)
			sample.Unchanged(t, "the key", k, key)
			sample.Unchanged(t, "the plain bytes", p, plain)
			sample.Unchanged(t, "the bytes beside", b, beside)
			sample.Unchanged(t, "the sealed bytes", s, want)
			for _, handed := range [][]byte{k, p, b, s} {
				clear(handed[:cap(handed)])
			}
			if e != api.OK || !bytes.Equal(sealed, want) || !bytes.Equal(opened, plain) {
				t.Errorf("%d bytes: an answer changed with an argument", n)
			}
			if !bytes.Equal(x.Seal(nonceOf(24), plain, beside), want) {
				t.Errorf("%d bytes: an argument was kept", n)
			}
		}
	}
}

// The same memory as plain bytes and beside.
func TestSealBesideItself(t *testing.T) {
	x := made(t, sample.Filled(16, 27))
	b := sample.Filled(50, 27)
	want := sealedBy(t, sample.Filled(16, 27), nonceOf(27), b, sample.Filled(50, 27))
	sealed := x.Seal(nonceOf(27), b, b)
	if !bytes.Equal(sealed, want) || !bytes.Equal(b, sample.Filled(50, 27)) {
		t.Error("sealed beside itself")
	}
	all := x.Seal(nonceOf(27), b, sealed)
	if plain, e := x.Open(nonceOf(27), all, sealed); e != api.OK || !bytes.Equal(plain, b) {
		t.Error("opened beside other sealed bytes")
	}
}

func TestAnswersAreNew(t *testing.T) {
	x := made(t, sample.Filled(16, 28))
	for _, n := range []int{0, 1, 16, 40} {
		plain, beside := sample.Filled(n, 28), sample.Filled(n, 29)
		one, two := x.Seal(nonceOf(28), plain, beside), x.Seal(nonceOf(28), plain, beside)
		want := bytes.Clone(two)
		clear(one[:cap(one)])
		if !bytes.Equal(two, want) || !bytes.Equal(x.Seal(nonceOf(28), plain, beside), want) {
			t.Errorf("what is sealed of %d bytes isn't new memory", n)
		}
		first, _ := x.Open(nonceOf(28), two, beside)
		second, _ := x.Open(nonceOf(28), two, beside)
		clear(first[:cap(first)])
		third, e := x.Open(nonceOf(28), two, beside)
		if e != api.OK || !bytes.Equal(second, plain) || !bytes.Equal(third, plain) || !bytes.Equal(two, want) {
			t.Errorf("what is opened to %d bytes isn't new memory", n)
		}
		if !bytes.Equal(plain, sample.Filled(n, 28)) || !bytes.Equal(beside, sample.Filled(n, 29)) {
			t.Errorf("%d bytes: an answer is an argument's memory", n)
		}
	}
}
