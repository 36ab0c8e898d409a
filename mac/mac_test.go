package mac_test

import (
	"bytes"
	"crypto/hkdf"
	"crypto/hmac"
	"crypto/sha256"
	"encoding/hex"
	"math"
	"strings"
	"testing"

	"tollgate/api"
	"tollgate/hash"
	"tollgate/mac"
	"tollgate/sample"
)

func markOf(key, b []byte) [32]byte {
	h := hmac.New(sha256.New, key)
	h.Write(b)
	return [32]byte(h.Sum(nil))
}

func expanded(t *testing.T, key [32]byte, info []byte, n int) []byte {
	t.Helper()
	b, err := hkdf.Expand(sha256.New, key[:], string(info), n)
	if err != nil {
		t.Fatal(err)
	}
	return b
}

// infoOf is what Label expands, from the document's words alone.
func infoOf(label string, context []byte, n int) []byte {
	name := "tls13 " + label
	info := []byte{byte(n / 256), byte(n % 256), byte(len(name))}
	info = append(info, name...)
	info = append(info, byte(len(context)))
	return append(info, context...)
}

func TestKnownMarks(t *testing.T) {
	for _, c := range []struct{ key, text, want string }{
		{strings.Repeat("\x0b", 20), "Hi There", "b0344c61d8db38535ca8afceaf0bf12b881dc200c9833da726e9376c2e32cff7"},
		{"Jefe", "what do ya want for nothing?", "5bdcc146bf60754e6a042426089575c75a003f089d2739839dec58b964ec3843"},
		{strings.Repeat("\xaa", 20), strings.Repeat("\xdd", 50), "773ea91e36800e46854db8ebd09181a72959098b3ef8c122d9635514ced565fe"},
		{strings.Repeat("\xaa", 131), "Test Using Larger Than Block-Size Key - Hash Key First",
			"60e431591ee0b67f0d8a26aacbf5b77f8e0bc6213728c5140546040f0ee37f54"},
		{"", "", "b613679a0814d9ec772f95d778c35fc5ff1697c493715653c6c712144292c5ad"},
	} {
		mark := mac.Of([]byte(c.key), []byte(c.text))
		if hex.EncodeToString(mark[:]) != c.want {
			t.Errorf("of %q by %q: %x, not %s", c.text, c.key, mark, c.want)
		}
	}
}

func TestMarkByEveryKey(t *testing.T) {
	text := sample.Filled(100, 1)
	for n := 0; n <= 200; n++ {
		key := sample.Filled(n, 2)
		if mac.Of(key, text) != markOf(key, text) {
			t.Errorf("by a key of %d bytes", n)
		}
	}
	if mac.Of(nil) != markOf(nil, nil) || mac.Of([]byte{}, nil, []byte{}) != markOf(nil, nil) {
		t.Error("of no bytes by no key")
	}
}

func TestMarkOfParts(t *testing.T) {
	for _, n := range []int{0, 1, 47, 55, 56, 63, 64, 65, 128, 150} {
		b := sample.Filled(n, 3)
		for _, size := range []int{0, 10, 64, 65} {
			key := sample.Filled(size, 4)
			want := markOf(key, b)
			for i := 0; i <= n; i++ {
				if mac.Of(key, b[:i], nil, b[i:]) != want {
					t.Errorf("of %d bytes, cut at %d, by a key of %d", n, i, size)
				}
			}
			var parts [][]byte
			for i := range b {
				parts = append(parts, b[i:i+1])
			}
			if mac.Of(key, parts...) != want {
				t.Errorf("of %d bytes, one by one, by a key of %d", n, size)
			}
		}
	}
	if mac.Of([]byte("key"), []byte("a"), []byte("b")) == mac.Of([]byte("key"), []byte("b"), []byte("a")) {
		t.Error("the parts' order")
	}
}

// A key beyond a block counts as its sum; one of just a block doesn't.
func TestMarkKeysAtABlock(t *testing.T) {
	text := []byte("text")
	just, more := sample.Filled(64, 5), sample.Filled(65, 5)
	sum := hash.Of(more)
	if mac.Of(more, text) != mac.Of(sum[:], text) {
		t.Error("a key of 65 bytes isn't its sum")
	}
	sum = hash.Of(just)
	if mac.Of(just, text) == mac.Of(sum[:], text) || mac.Of(just[:63], text) == mac.Of(just, text) {
		t.Error("a key of 64 bytes isn't itself")
	}
}

func TestSame(t *testing.T) {
	if !mac.Same(nil, nil) || !mac.Same(nil, []byte{}) || !mac.Same([]byte{}, nil) {
		t.Error("no bytes aren't the same")
	}
	for n := 0; n <= 70; n++ {
		a, b := sample.Filled(n, 6), sample.Filled(n, 6)
		if !mac.Same(a, b) || !mac.Same(a, a) {
			t.Errorf("%d bytes aren't the same", n)
		}
		for _, longer := range [][]byte{append(sample.Filled(n, 6), 0), append(sample.Filled(n, 6), 1)} {
			if mac.Same(a, longer) || mac.Same(longer, a) {
				t.Errorf("%d bytes and one more are the same", n)
			}
		}
		for i := range b {
			for bit := range 8 {
				b[i] ^= 1 << bit
				if mac.Same(a, b) || mac.Same(b, a) {
					t.Errorf("%d bytes, another bit %d in byte %d: the same", n, bit, i)
				}
				b[i] ^= 1 << bit
			}
		}
	}
}

// Differences that make up for each other, if they were added, or put together by exclusive or.
func TestSameOfManyDifferences(t *testing.T) {
	for _, c := range []struct{ a, b []byte }{
		{[]byte{1, 2}, []byte{2, 1}},
		{[]byte{0, 0, 7}, []byte{5, 5, 7}},
		{[]byte{10, 20}, []byte{11, 19}},
		{[]byte{0, 0}, []byte{0x80, 0x80}},
		{make([]byte, 256), bytes.Repeat([]byte{1}, 256)},
		{[]byte{0xF0, 0}, []byte{0, 0x0F}},
	} {
		if mac.Same(c.a, c.b) || mac.Same(c.b, c.a) {
			t.Errorf("%x and %x are the same", c.a, c.b)
		}
	}
}

func TestExtract(t *testing.T) {
	known := mac.Extract(sample.Bytes(t, "000102030405060708090a0b0c"), bytes.Repeat([]byte{0x0b}, 22))
	if hex.EncodeToString(known[:]) != "077709362c2e32df0ddc3f0dc47bba6390b6c73bb50f9c3122ec844ad7c2b3e5" {
		t.Errorf("known: %x", known)
	}
	for n := 0; n <= 130; n++ {
		salt, from := sample.Filled(n, 7), sample.Filled(130-n, 8)
		want, err := hkdf.Extract(sha256.New, from, salt)
		got := mac.Extract(salt, from)
		if err != nil || !bytes.Equal(got[:], want) || got != mac.Of(salt, from) {
			t.Errorf("salt of %d bytes", n)
		}
	}
	// No salt is the same as 32 noughts.
	if mac.Extract(nil, []byte("from")) != mac.Extract(make([]byte, 32), []byte("from")) {
		t.Error("no salt")
	}
}

func TestKnownExpands(t *testing.T) {
	for _, c := range []struct{ key, info, want string }{
		{"077709362c2e32df0ddc3f0dc47bba6390b6c73bb50f9c3122ec844ad7c2b3e5", "f0f1f2f3f4f5f6f7f8f9",
			"3cb25f25faacd57a90434f64d0362f2a2d2d0a90cf1a5a4c5db02d56ecc4c5bf34007208d5b887185865"},
		{"19ef24a32c717b167f33a91d6f648bdf96596776afdb6377ac434c1c293ccb04", "",
			"8da4e775a563c18f715f802a063c5a31b8a11f5c5ee1879ec3454e5f3c738d2d9d201395faa4b61a96c8"},
	} {
		got, e := mac.Expand([32]byte(sample.Bytes(t, c.key)), sample.Bytes(t, c.info), 42)
		if e != api.OK || hex.EncodeToString(got) != c.want {
			t.Errorf("%x %d, not %s", got, e, c.want)
		}
	}
}

func TestExpandOfEveryCount(t *testing.T) {
	key, info := hash.Of([]byte("key")), sample.Filled(50, 9)
	all := expanded(t, key, info, 8160)
	for n := 0; n <= 8160; n++ {
		if n > 300 && n < 8000 && n%97 != 0 {
			continue
		}
		got, e := mac.Expand(key, info, n)
		if e != api.OK || !bytes.Equal(got, all[:n]) {
			t.Errorf("%d bytes: error %d", n, e)
		}
	}
	// T1, T2, .. by the document's words.
	one := mac.Of(key[:], info, []byte{1})
	two := mac.Of(key[:], one[:], info, []byte{2})
	got, _ := mac.Expand(key, info, 64)
	if !bytes.Equal(got, append(one[:], two[:]...)) {
		t.Error("T1 and T2")
	}
}

func TestExpandByAnyInfo(t *testing.T) {
	for n := 0; n <= 300; n++ {
		key, info := hash.Of(sample.Filled(n, 10)), sample.Filled(n, 11)
		got, e := mac.Expand(key, info, 70)
		if e != api.OK || !bytes.Equal(got, expanded(t, key, info, 70)) {
			t.Errorf("info of %d bytes", n)
		}
	}
	key := [32]byte{1}
	a, _ := mac.Expand(key, nil, 40)
	b, _ := mac.Expand(key, []byte{}, 40)
	if !bytes.Equal(a, b) || !bytes.Equal(a, expanded(t, key, nil, 40)) {
		t.Error("nil and empty info")
	}
}

var wrongCounts = []int{-1, -2, -256, -8160, math.MinInt, 8161, 8192, 1 << 14, 65535, 65536, 65568, 1 << 32, 1<<32 + 32, math.MaxInt}

func TestExpandOfWrongCounts(t *testing.T) {
	for _, n := range wrongCounts {
		if got, e := mac.Expand([32]byte{1}, []byte("info"), n); e != api.ErrArg || len(got) != 0 {
			t.Errorf("%d: %d bytes, error %d", n, len(got), e)
		}
	}
}

// The keys of RFC 8448's first handshake.
func TestKnownLabels(t *testing.T) {
	early := mac.Extract(nil, make([]byte, 32))
	if !bytes.Equal(early[:], sample.Bytes(t, "33ad0a1c607ec03b09e6cd9893680ce210adf300aa1f2660e1b22e10f170f92a")) {
		t.Errorf("early: %x", early)
	}
	derived := mac.Derive(early, "derived", hash.Of())
	if !bytes.Equal(derived[:], sample.Bytes(t, "6f2615a108c702c5678f54fc9dbab69716c076189c48250cebeac3576c3611ba")) {
		t.Errorf("derived: %x", derived)
	}
	traffic := [32]byte(sample.Bytes(t, "b67b7d690cc16c4e75e54213cb2d37b4e9c912bcded9105d42befd59d391ad38"))
	for _, c := range []struct {
		label string
		want  string
	}{
		{"key", "3fce516009c21727d0f2e4e86ee403bc"},
		{"iv", "5d313eb2671276ee13000b30"},
	} {
		want := sample.Bytes(t, c.want)
		got, e := mac.Label(traffic, c.label, nil, len(want))
		if e != api.OK || !bytes.Equal(got, want) {
			t.Errorf("%s: %x", c.label, got)
		}
	}
}

func TestLabelOfEveryLength(t *testing.T) {
	key := hash.Of([]byte("key"))
	for n := 0; n <= 255; n++ {
		label, context := string(sample.Filled(n, 12)), sample.Filled(255-n, 13)
		if n > 249 {
			label = label[:249]
		}
		for _, count := range []int{0, 1, 16, 32, 33, 255, 256, 300} {
			got, e := mac.Label(key, label, context, count)
			if e != api.OK || !bytes.Equal(got, expanded(t, key, infoOf(label, context, count), count)) {
				t.Errorf("label of %d, context of %d, %d bytes: error %d", len(label), len(context), count, e)
			}
		}
	}
}

func TestLabelOfTheMost(t *testing.T) {
	key, label, context := hash.Of([]byte("key")), string(sample.Filled(249, 14)), sample.Filled(255, 15)
	for _, n := range []int{0, 1, 8159, 8160} {
		got, e := mac.Label(key, label, context, n)
		if e != api.OK || !bytes.Equal(got, expanded(t, key, infoOf(label, context, n), n)) {
			t.Errorf("%d bytes: error %d", n, e)
		}
	}
	for _, c := range []struct{ label, context, n int }{
		{250, 0, 32}, {251, 255, 32}, {255, 0, 32}, {256, 0, 32}, {249 + 256, 0, 32}, {70000, 0, 32},
		{0, 256, 32}, {249, 256, 32}, {5, 257, 0}, {5, 512, 32}, {5, 70000, 32}, {250, 256, 32},
		{250, 0, 0}, {0, 256, 0}, {255, 255, 8160}, {256, 256, 8161}, {5, 256, -1}, {250, 5, -1},
	} {
		got, e := mac.Label(key, string(sample.Filled(c.label, 16)), sample.Filled(c.context, 17), c.n)
		if e != api.ErrArg || len(got) != 0 {
			t.Errorf("label of %d, context of %d, %d bytes: %d bytes, error %d", c.label, c.context, c.n, len(got), e)
		}
	}
	for _, n := range wrongCounts {
		if got, e := mac.Label(key, "label", []byte("context"), n); e != api.ErrArg || len(got) != 0 {
			t.Errorf("%d: %d bytes, error %d", n, len(got), e)
		}
	}
}

// The count, the label and the context have each a say; what ends one doesn't begin the other.
func TestLabelHangsOnAll(t *testing.T) {
	key := [32]byte{9}
	first, _ := mac.Label(key, "label", []byte("context"), 32)
	for _, c := range []struct {
		label, context string
		n              int
	}{
		{"label", "contexT", 32}, {"labeL", "context", 32}, {"labelc", "ontext", 32}, {"label", "context", 33}, {"label", "", 32},
	} {
		other, e := mac.Label(key, c.label, []byte(c.context), c.n)
		if e != api.OK || bytes.Equal(first, other[:32]) {
			t.Errorf("%q, %q, %d", c.label, c.context, c.n)
		}
	}
}

func TestDerive(t *testing.T) {
	for n := 0; n <= 249; n++ {
		key, sum, label := hash.Of(sample.Filled(n, 18)), hash.Of(sample.Filled(n, 19)), string(sample.Filled(n, 20))
		want, e := mac.Label(key, label, sum[:], 32)
		got := mac.Derive(key, label, sum)
		if e != api.OK || !bytes.Equal(got[:], want) || !bytes.Equal(want, expanded(t, key, infoOf(label, sum[:], 32), 32)) {
			t.Errorf("label of %d bytes", n)
		}
	}
	for _, n := range []int{250, 251, 255, 256, 257, 505, 512, 70000} {
		if got := mac.Derive([32]byte{1}, string(sample.Filled(n, 21)), [32]byte{2}); got != [32]byte{} {
			t.Errorf("label of %d bytes: %x", n, got)
		}
	}
}

func TestNothingIsKeptOrChanged(t *testing.T) {
	for _, n := range []int{0, 1, 20, 31, 32, 63, 64, 65, 130, 255} {
		key, context := sample.Filled(n, 22), sample.Filled(n, 23)
		k, c := sample.Roomy(key), sample.Roomy(context)
		parts := append(make([][]byte, 0, 4), k, c)
		mark, drawn := mac.Of(k, parts...), mac.Extract(k, c)
		made, e := mac.Expand(mark, c, 100)
		named, e2 := mac.Label(mark, "label", c, 100)
		mac.Same(k, c)
		if e != api.OK || e2 != api.OK {
			t.Fatal(e, e2)
		}
		sample.Unchanged(t, "the key", k, key)
		sample.Unchanged(t, "the context", c, context)
		room := parts[:4]
		if !bytes.Equal(room[0], key) || !bytes.Equal(room[1], context) || room[2] != nil || room[3] != nil {
			t.Error("the list of parts was changed")
		}
		clear(k)
		clear(c)
		if mark != mac.Of(key, key, context) || drawn != mac.Of(key, context) {
			t.Error("a mark changed")
		}
		if !bytes.Equal(made, expanded(t, mark, context, 100)) || !bytes.Equal(named, expanded(t, mark, infoOf("label", context, 100), 100)) {
			t.Errorf("%d bytes: an answer changed with an argument", n)
		}
	}
}

func TestAnswersAreNew(t *testing.T) {
	key, context := [32]byte{7}, []byte("context")
	for _, n := range []int{1, 32, 64, 100} {
		one, _ := mac.Expand(key, context, n)
		two, _ := mac.Expand(key, context, n)
		want := bytes.Clone(two)
		clear(one[:cap(one)])
		again, _ := mac.Expand(key, context, n)
		if !bytes.Equal(two, want) || !bytes.Equal(again, want) {
			t.Errorf("what is expanded to %d bytes isn't new memory", n)
		}
		one, _ = mac.Label(key, "label", context, n)
		two, _ = mac.Label(key, "label", context, n)
		want = bytes.Clone(two)
		clear(one[:cap(one)])
		again, _ = mac.Label(key, "label", context, n)
		if !bytes.Equal(two, want) || !bytes.Equal(again, want) || string(context) != "context" {
			t.Errorf("a label's %d bytes aren't new memory", n)
		}
	}
}
