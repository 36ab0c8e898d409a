package old_test

import (
	"bytes"
	"crypto/hmac"
	"crypto/md5"
	"encoding/hex"
	"math/rand"
	"strings"
	"testing"

	"tollgate/old"
	"tollgate/sample"
)

func markOf(key, b []byte) [16]byte {
	h := hmac.New(md5.New, key)
	h.Write(b)
	return [16]byte(h.Sum(nil))
}

// hiddenBy is what Hide must answer, from the document's words alone.
func hiddenBy(secret, begin, b []byte) []byte {
	padded := bytes.Clone(b)
	for len(padded)%16 != 0 {
		padded = append(padded, 0)
	}
	var hidden []byte
	ahead := begin
	for i := 0; i < len(padded); i += 16 {
		mask := md5.Sum(append(bytes.Clone(secret), ahead...))
		for j := range 16 {
			hidden = append(hidden, padded[i+j]^mask[j])
		}
		ahead = hidden[i:]
	}
	return hidden
}

func TestKnownSums(t *testing.T) {
	for text, want := range map[string]string{
		"":                           "d41d8cd98f00b204e9800998ecf8427e",
		"a":                          "0cc175b9c0f1b6a831c399e269772661",
		"abc":                        "900150983cd24fb0d6963f7d28e17f72",
		"message digest":             "f96b697d7cb7938d525a2f31aaf161d0",
		"abcdefghijklmnopqrstuvwxyz": "c3fcd3d76192e4007dfb496cca67e13b",
		"ABCDEFGHIJKLMNOPQRSTUVWXYZabcdefghijklmnopqrstuvwxyz0123456789": "d174ab98d277d9f5a5611c2c9f419d9f",
		strings.Repeat("1234567890", 8):                                  "57edf4a22be3c955ac49da2e2107b67a",
	} {
		sum := old.Of([]byte(text))
		if hex.EncodeToString(sum[:]) != want {
			t.Errorf("of %q: %x, not %s", text, sum, want)
		}
	}
}

func TestSumOfNoBytes(t *testing.T) {
	none := md5.Sum(nil)
	if old.Of() != none || old.Of(nil) != none || old.Of([]byte{}, nil) != none {
		t.Error("Of no bytes")
	}
}

func TestSumOfEveryLength(t *testing.T) {
	for n := 0; n <= 520; n++ {
		b := sample.Filled(n, 1)
		want := md5.Sum(b)
		if old.Of(b) != want {
			t.Errorf("Of %d bytes", n)
		}
		var parts [][]byte
		for i := range b {
			parts = append(parts, b[i:i+1])
		}
		if old.Of(parts...) != want {
			t.Errorf("Of %d bytes, one by one", n)
		}
	}
}

func TestSumCutAnywhere(t *testing.T) {
	for _, n := range []int{1, 55, 56, 63, 64, 65, 119, 120, 127, 128, 129, 300} {
		b := sample.Filled(n, 1)
		want := md5.Sum(b)
		for i := 0; i <= n; i++ {
			for j := i; j <= n; j += 7 {
				if old.Of(b[:i], b[i:j], nil, b[j:]) != want {
					t.Errorf("Of %d bytes, cut at %d and %d", n, i, j)
				}
			}
		}
	}
}

// More than 2^32 bits: the count at the end takes more than four bytes.
func TestSumOfManyBytes(t *testing.T) {
	const times = 1<<9 + 1
	part := sample.Filled(1<<20, 1)
	want := md5.New()
	var parts [][]byte
	for range times {
		parts = append(parts, part)
		want.Write(part)
	}
	sum := old.Of(parts...)
	if !bytes.Equal(sum[:], want.Sum(nil)) {
		t.Errorf("of %d bytes: %x", times<<20, sum)
	}
}

func TestKnownMarks(t *testing.T) {
	for _, c := range []struct{ key, text, want string }{
		{"Jefe", "what do ya want for nothing?", "750c783e6ab0b503eaa86e310a5db738"},
		{strings.Repeat("\x0b", 16), "Hi There", "9294727a3638bb1c13f48ef8158bfc9d"},
		{strings.Repeat("\xaa", 16), strings.Repeat("\xdd", 50), "56be34521d144c88dbb8c733f0e8b3f6"},
		{strings.Repeat("\xaa", 80), "Test Using Larger Than Block-Size Key - Hash Key First",
			"6b1ab7fe4bd7bf8f0b62e6ce61b9d0cd"},
	} {
		mark := old.Mac([]byte(c.key), []byte(c.text))
		if hex.EncodeToString(mark[:]) != c.want {
			t.Errorf("of %q by %q: %x, not %s", c.text, c.key, mark, c.want)
		}
	}
}

func TestMarkByEveryKey(t *testing.T) {
	text := sample.Filled(100, 3)
	for n := 0; n <= 200; n++ {
		key := sample.Filled(n, 2)
		if old.Mac(key, text) != markOf(key, text) {
			t.Errorf("by a key of %d bytes", n)
		}
	}
	if old.Mac(nil) != markOf(nil, nil) || old.Mac([]byte{}, nil, []byte{}) != markOf(nil, nil) {
		t.Error("of no bytes by no key")
	}
}

func TestMarkOfParts(t *testing.T) {
	for _, n := range []int{0, 1, 47, 55, 56, 63, 64, 65, 128, 150} {
		b := sample.Filled(n, 4)
		for _, size := range []int{0, 10, 64, 65} {
			key := sample.Filled(size, 5)
			want := markOf(key, b)
			for i := 0; i <= n; i++ {
				if old.Mac(key, b[:i], nil, b[i:]) != want {
					t.Errorf("of %d bytes, cut at %d, by a key of %d", n, i, size)
				}
			}
		}
	}
	if old.Mac([]byte("key"), []byte("a"), []byte("b")) == old.Mac([]byte("key"), []byte("b"), []byte("a")) {
		t.Error("the parts' order")
	}
}

// A key counts as with noughts up to a block, one beyond a block as its sum; a byte more is another key.
func TestMarkKeysAtABlock(t *testing.T) {
	text := []byte("text")
	just, more := sample.Filled(64, 6), sample.Filled(65, 6)
	sum := old.Of(more)
	if old.Mac(more, text) != old.Mac(sum[:], text) {
		t.Error("a key of 65 bytes isn't its sum")
	}
	sum = old.Of(just)
	if old.Mac(just, text) == old.Mac(sum[:], text) || old.Mac(just[:63], text) == old.Mac(just, text) {
		t.Error("a key of 64 bytes isn't itself")
	}
}

func TestHideOfEveryLength(t *testing.T) {
	for n := 0; n <= 200; n++ {
		for _, size := range []int{0, 1, 16, 48, 64, 100} {
			secret, begin, b := sample.Filled(size, 7), sample.Filled((size+n)%40, 8), sample.Filled(n, 9)
			hidden := old.Hide(secret, begin, b)
			if !bytes.Equal(hidden, hiddenBy(secret, begin, b)) {
				t.Errorf("%d bytes by %d", n, size)
			}
			shown := old.Show(secret, begin, hidden)
			if len(shown) != (n+15)/16*16 || !bytes.Equal(shown[:n], b) || !bytes.Equal(shown[n:], make([]byte, len(shown)-n)) {
				t.Errorf("%d bytes by %d, shown again: %x", n, size, shown)
			}
		}
	}
}

// Hide and Show of fixed bytes, so that neither hangs on the other.
func TestHideOfKnownBytes(t *testing.T) {
	secret, begin := []byte("xyzzy5461"), []byte("sixteen bytes ..")
	plain := append([]byte("a password of 20 by!"), make([]byte, 12)...)
	one := md5.Sum([]byte("xyzzy5461sixteen bytes .."))
	want := make([]byte, 32)
	for i := range 16 {
		want[i] = plain[i] ^ one[i]
	}
	two := md5.Sum(append([]byte("xyzzy5461"), want[:16]...))
	for i := range 16 {
		want[16+i] = plain[16+i] ^ two[i]
	}
	if !bytes.Equal(old.Hide(secret, begin, plain[:20]), want) || !bytes.Equal(old.Hide(secret, begin, plain), want) {
		t.Error("hidden otherwise")
	}
	if !bytes.Equal(old.Show(secret, begin, want), plain) {
		t.Error("shown otherwise")
	}
}

func TestHideOfNothing(t *testing.T) {
	if len(old.Hide(nil, nil, nil)) != 0 || len(old.Hide([]byte("s"), []byte("b"), []byte{})) != 0 {
		t.Error("nothing hidden is something")
	}
	if len(old.Show(nil, nil, nil)) != 0 || len(old.Show([]byte("s"), []byte("b"), []byte{})) != 0 {
		t.Error("nothing shown is something")
	}
}

func TestShowOfAnyBytes(t *testing.T) {
	r := rand.New(rand.NewSource(2))
	for n := 0; n <= 100; n++ {
		b := sample.Filled(n, 10)
		secret, begin := sample.Filled(r.Intn(100), 11), sample.Filled(r.Intn(100), 12)
		shown := old.Show(secret, begin, b)
		if n%16 != 0 {
			if shown != nil {
				t.Errorf("%d bytes are shown", n)
			}
			continue
		}
		if len(shown) != n || !bytes.Equal(old.Hide(secret, begin, shown), b) {
			t.Errorf("%d bytes: what is shown isn't hidden so", n)
		}
	}
}

func TestHideHangsOnAll(t *testing.T) {
	b := sample.Filled(48, 13)
	first := old.Hide([]byte("secret"), []byte("begin"), b)
	if bytes.Equal(first, old.Hide([]byte("secreT"), []byte("begin"), b)) {
		t.Error("the secret")
	}
	other := old.Hide([]byte("secret"), []byte("begiN"), b)
	for i := 0; i < 48; i += 16 {
		if bytes.Equal(first[i:i+16], other[i:i+16]) {
			t.Errorf("the beginning, in the bytes from %d on", i)
		}
	}
}

func TestNothingIsKeptOrChanged(t *testing.T) {
	for _, n := range []int{0, 1, 15, 16, 17, 48, 64, 65, 130} {
		secret, begin, b := sample.Filled(n, 14), sample.Filled(n, 15), sample.Filled(n, 16)
		s, g, p := sample.Roomy(secret), sample.Roomy(begin), sample.Roomy(b)
		parts := append(make([][]byte, 0, 4), g, p)
		sum, mark, hidden := old.Of(parts...), old.Mac(s, parts...), old.Hide(s, g, p)
		wanted := bytes.Clone(hidden)
		h := sample.Roomy(hidden)
		shown := old.Show(s, g, h)
		old.Show(s, g, p)
		sample.Unchanged(t, "the secret", s, secret)
		sample.Unchanged(t, "the beginning", g, begin)
		sample.Unchanged(t, "the bytes", p, b)
		sample.Unchanged(t, "the hidden bytes", h, hidden)
		room := parts[:4]
		if !bytes.Equal(room[0], begin) || !bytes.Equal(room[1], b) || room[2] != nil || room[3] != nil {
			t.Error("the list of parts was changed")
		}
		clear(s)
		clear(g)
		clear(p)
		clear(h)
		if sum != old.Of(begin, b) || mark != old.Mac(secret, begin, b) {
			t.Error("a sum or a mark changed")
		}
		if !bytes.Equal(hidden, wanted) || len(shown) != len(hidden) || !bytes.Equal(shown[:n], b) {
			t.Errorf("%d bytes: an answer changed with an argument", n)
		}
	}
}

func TestAnswersAreNew(t *testing.T) {
	secret, begin := []byte("secret"), []byte("begin")
	for _, n := range []int{16, 20, 64} {
		b := sample.Filled(n, 17)
		one, two := old.Hide(secret, begin, b), old.Hide(secret, begin, b)
		want := bytes.Clone(two)
		clear(one)
		if !bytes.Equal(two, want) || !bytes.Equal(old.Hide(secret, begin, b), want) || !bytes.Equal(b, sample.Filled(n, 17)) {
			t.Errorf("what is hidden of %d bytes isn't new memory", n)
		}
		first, second := old.Show(secret, begin, want), old.Show(secret, begin, want)
		kept := bytes.Clone(second)
		clear(first)
		if !bytes.Equal(second, kept) || !bytes.Equal(old.Show(secret, begin, want), kept) {
			t.Errorf("what is shown of %d bytes isn't new memory", n)
		}
		if !bytes.Equal(old.Hide(secret, begin, b), want) {
			t.Errorf("what is shown shares with what was hidden of %d bytes", n)
		}
	}
}
