package wrap_test

import (
	"bytes"
	"math/rand"
	"slices"
	"testing"

	"tollgate/api"
	"tollgate/sample"
	"tollgate/wrap"
)

func TestExamples(t *testing.T) {
	for n, want := range map[int]int{32: 56, 15: 24, 1: 24, 16: 40, 31: 40, 64: 88, 200: 216} {
		if v, e := wrap.Wrap(wrap.Recv, make([]byte, n), salt, asked, []byte("s")); e != api.OK || len(v) != want {
			t.Errorf("a key of %d bytes: %d, error %d", n, len(v), e)
		}
	}
	if wrap.Send != 16 || wrap.Recv != 17 {
		t.Error(wrap.Send, wrap.Recv)
	}
}

func TestKeysOfEachCount(t *testing.T) {
	for n := range 300 {
		for _, kind := range []int{16, 17} {
			for _, size := range []int{0, 1, 20, 64, 100} {
				isWrapped(t, given{kind, sample.Filled(n, size), salt, asked, sample.Filled(size, 6)})
			}
		}
	}
	for _, n := range []int{256, 257, 256 + 32, 1<<16 + 1, 1 << 20} {
		isWrapped(t, given{16, make([]byte, n), salt, asked, []byte("s")})
	}
}

// Keys of noughts, that end with noughts, or begin with them: the count tells them apart.
func TestKeysOfNoughts(t *testing.T) {
	for n := 1; n <= mostKey; n++ {
		isWrapped(t, given{17, make([]byte, n), salt, asked, []byte("s")})
		isWrapped(t, given{17, append(make([]byte, n-1), 1), salt, asked, []byte("s")})
		isWrapped(t, given{17, append([]byte{1}, make([]byte, n-1)...), salt, asked, []byte("s")})
	}
}

func TestAllKinds(t *testing.T) {
	for kind := -300; kind < 600; kind++ {
		isWrapped(t, given{kind, []byte("key"), salt, asked, []byte("s")})
	}
	for _, kind := range []int{-1 << 63, 1<<32 + 16, 1<<32 + 17, 1<<63 - 1} {
		isWrapped(t, given{kind, []byte("key"), salt, asked, []byte("s")})
	}
}

func TestAllSalts(t *testing.T) {
	for a := range 256 {
		for _, b := range []byte{0, 1, 0x7F, 0x80, 0xFF} {
			isWrapped(t, given{16, []byte("key"), [2]byte{byte(a), b}, asked, []byte("s")})
		}
	}
}

// Each of what a key is wrapped with counts.
func TestWrapHangsOnAll(t *testing.T) {
	key, secret := sample.Filled(32, 1), []byte("secret")
	right, _ := wrap.Wrap(16, key, salt, asked, secret)
	for i := range 16 {
		other := asked
		other[i] ^= 1
		// By chance there may be another key, for the ask changes the first 16 bytes alone.
		isUnwrapped(t, right, other, secret)
		if _, b, _ := wrap.Unwrap(right, other, secret); bytes.Equal(b, key) {
			t.Errorf("by another ask: %x", b)
		}
	}
	for _, other := range [][]byte{nil, []byte("secre"), []byte("secreT"), []byte("secret ")} {
		isNone(t, right, other)
	}
	for i := range right {
		for bit := range 8 {
			v := bytes.Clone(right)
			v[i] ^= 1 << bit
			isUnwrapped(t, v, asked, secret)
		}
	}
}

func TestUnwrapOfOtherSizes(t *testing.T) {
	for _, n := range []int{1, 15, 16, 32, mostKey} {
		right := given{16, sample.Filled(n, 2), salt, asked, []byte("s")}.value()
		for k := range right {
			isNone(t, right[:k], []byte("s"))
			isNone(t, slices.Concat(right[:k], right[k+1:]), []byte("s"))
			isNone(t, slices.Concat(right[:k], []byte{0}, right[k:]), []byte("s"))
		}
		for _, more := range []int{1, 8, 15, 16, 32, 256, 512} {
			isNone(t, slices.Concat(right, make([]byte, more)), []byte("s"))
		}
	}
	isNone(t, nil, nil)
	isNone(t, []byte{}, []byte("s"))
	for _, n := range []int{8, 24, 216, 232, 253, 1 << 16, 1<<20 + 8} {
		isNone(t, make([]byte, n), []byte("s"))
	}
}

// What is hidden is none's: no key, a key beyond what is there, one that leaves room for 16 bytes, something behind it.
func TestUnwrapOfWrongInsides(t *testing.T) {
	secret := []byte("s")
	of := func(size, n int) []byte {
		plain := make([]byte, size)
		plain[0] = byte(n)
		for i := 1; i <= n && i < size; i++ {
			plain[i] = byte(i)
		}
		return plain
	}
	for size := 16; size <= 256; size += 16 {
		for n := range 256 {
			v := valueOf(16, of(size, n), salt, asked, secret)
			right := n >= 1 && n <= mostKey && n < size && size-1-n < 16
			if isUnwrapped(t, v, asked, secret) != right {
				t.Errorf("a count of %d in %d bytes: %v", n, size, !right)
			}
		}
	}
	for behind := 6; behind < 16; behind++ {
		plain := of(16, 5)
		plain[behind] = 1
		isNone(t, valueOf(17, plain, salt, asked, secret), secret)
	}
	isNone(t, valueOf(17, nil, salt, asked, secret), secret)
}

// What stands ahead of what is hidden: the vendor, the kind, the count and the salt, each in each way.
func TestUnwrapOfEachHead(t *testing.T) {
	secret, plain := []byte("s"), append([]byte{15}, sample.Filled(15, 1)...)
	for x := range 256 {
		for at := range 6 {
			v := valueOf(16, plain, salt, asked, secret)
			v[at] = byte(x)
			isUnwrapped(t, v, asked, secret)
		}
		if got, want := isUnwrapped(t, valueOf(byte(x), plain, salt, asked, secret), asked, secret), x == 16 || x == 17; got != want {
			t.Errorf("kind %d: %v", x, got)
		}
		if got, want := isUnwrapped(t, valueOf(16, plain, [2]byte{byte(x), 9}, asked, secret), asked, secret), x >= 0x80; got != want {
			t.Errorf("salt %x: %v", x, got)
		}
	}
}

func TestUnwrapOfAnyBytes(t *testing.T) {
	r := rand.New(rand.NewSource(3))
	for i := range 20000 {
		v := sample.Filled(r.Intn(80), i)
		if len(v) >= 8 && r.Intn(10) > 0 {
			copy(v, []byte{0, 0, 1, 0x37, byte(16 + r.Intn(2)), byte(len(v) - 4), 0x80})
		}
		isUnwrapped(t, v, asked, sample.Filled(i%70, 1))
	}
}

func spoil(b []byte) {
	b = b[:cap(b)]
	for i := range b {
		b[i] ^= 0xA5
	}
}

func TestNothingIsKeptOrChanged(t *testing.T) {
	for _, n := range []int{0, 1, 14, 15, 16, 32, mostKey, mostKey + 1} {
		key, secret := sample.Filled(n, 1), sample.Filled(n, 2)
		k, s := sample.Roomy(key), sample.Roomy(secret)
		v, _ := wrap.Wrap(16, k, salt, asked, s)
		again, _ := wrap.Wrap(16, k, salt, asked, s)
		spoil(again)
		sample.Unchanged(t, "the key", k, key)
		sample.Unchanged(t, "the secret", s, secret)
		spoil(k)
		spoil(s)
		want := given{16, key, salt, asked, secret}
		if want.mayBe() && !bytes.Equal(v, want.value()) {
			t.Errorf("%d bytes: Wrap's answer isn't new memory", n)
		}
		for _, value := range [][]byte{want.value(), append(want.value(), 0), make([]byte, n)} {
			handed, s := sample.Roomy(value), sample.Roomy(secret)
			_, one, e := wrap.Unwrap(handed, asked, s)
			_, two, _ := wrap.Unwrap(handed, asked, s)
			sample.Unchanged(t, "the value", handed, value)
			sample.Unchanged(t, "the secret", s, secret)
			spoil(two)
			spoil(handed)
			spoil(s)
			if e == api.OK && !bytes.Equal(one, key) {
				t.Errorf("%d bytes: Unwrap's answer isn't new memory", n)
			}
		}
	}
}
