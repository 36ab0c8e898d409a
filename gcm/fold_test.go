package gcm_test

import (
	"bytes"
	"math/rand"
	"testing"

	"tollgate/block"
	"tollgate/gcm"
	"tollgate/sample"
)

func elementOf(seed int) [16]byte { return [16]byte(sample.Filled(16, seed)) }

// power is the element x^i.
func power(i int) [16]byte {
	var b [16]byte
	b[i/8] = 0x80 >> (i % 8)
	return b
}

func sum(a, b [16]byte) [16]byte {
	for i := range b {
		a[i] ^= b[i]
	}
	return a
}

// productOf is what Product must answer, from the document's words alone: all coefficients, then the rest.
func productOf(a, b [16]byte) [16]byte {
	var coefficients [255]byte
	for i := range 128 {
		for j := range 128 {
			coefficients[i+j] ^= (a[i/8] >> (7 - i%8) & 1) & (b[j/8] >> (7 - j%8) & 1)
		}
	}
	for i := 254; i >= 128; i-- {
		for _, at := range []int{0, 1, 2, 7} {
			coefficients[i-128+at] ^= coefficients[i]
		}
	}
	var c [16]byte
	for i := range 128 {
		c[i/8] |= coefficients[i] << (7 - i%8)
	}
	return c
}

// foldOf is what Fold must answer, from the document's words alone.
func foldOf(by [16]byte, parts ...[]byte) [16]byte {
	var y [16]byte
	for _, part := range parts {
		filled := bytes.Clone(part)
		for len(filled)%16 != 0 {
			filled = append(filled, 0)
		}
		for i := 0; i < len(filled); i += 16 {
			y = productOf(sum(y, [16]byte(filled[i:i+16])), by)
		}
	}
	return y
}

func TestKnownProducts(t *testing.T) {
	key, _ := block.New(make([]byte, 16))
	h := key.Seal([16]byte{})
	if h != [16]byte(sample.Bytes(t, "66e94bd4ef8a2c3b884cfa59ca342b2e")) {
		t.Fatalf("%x", h)
	}
	if got := gcm.Product([16]byte(sample.Bytes(t, "0388dace60b6a392f328c2b971b2fe78")), h); got != [16]byte(sample.Bytes(t, "5e2ec746917062882c85b0685353deb7")) {
		t.Errorf("%x", got)
	}
	got := gcm.Fold(h, sample.Bytes(t, "0388dace60b6a392f328c2b971b2fe78"), sample.Bytes(t, "00000000000000000000000000000080"))
	if got != [16]byte(sample.Bytes(t, "f38cbb1ad69223dcc3457ae5b6b0f885")) {
		t.Errorf("%x", got)
	}
}

func TestProductsOfPowers(t *testing.T) {
	for i := range 128 {
		for j := range 128 {
			want := productOf(power(i), power(j))
			if i+j < 128 {
				want = power(i + j)
			}
			if got := gcm.Product(power(i), power(j)); got != want {
				t.Errorf("x^%d by x^%d: %x, not %x", i, j, got, want)
			}
		}
	}
	if got := gcm.Product(power(1), power(127)); got != [16]byte{0xE1} {
		t.Errorf("x^128: %x", got)
	}
}

func TestAnyProduct(t *testing.T) {
	r := rand.New(rand.NewSource(2))
	all := [16]byte(bytes.Repeat([]byte{0xFF}, 16))
	for range 500 {
		var a, b, c [16]byte
		r.Read(a[:])
		r.Read(b[:])
		r.Read(c[:])
		if got := gcm.Product(a, b); got != productOf(a, b) {
			t.Fatalf("%x by %x: %x", a, b, got)
		}
		if gcm.Product(a, a) != productOf(a, a) || gcm.Product(a, all) != productOf(a, all) || gcm.Product(all, a) != productOf(all, a) {
			t.Fatalf("%x by itself, or by all ones", a)
		}
		if gcm.Product(a, b) != gcm.Product(b, a) || gcm.Product(gcm.Product(a, b), c) != gcm.Product(a, gcm.Product(b, c)) {
			t.Fatalf("%x, %x, %x: their order", a, b, c)
		}
		if gcm.Product(a, sum(b, c)) != sum(gcm.Product(a, b), gcm.Product(a, c)) {
			t.Fatalf("%x by the sum of %x and %x", a, b, c)
		}
		if gcm.Product(a, power(0)) != a || gcm.Product(power(0), a) != a {
			t.Fatalf("%x by one", a)
		}
		if gcm.Product(a, [16]byte{}) != [16]byte{} || gcm.Product([16]byte{}, a) != [16]byte{} {
			t.Fatalf("%x by nought", a)
		}
	}
}

func TestFoldOfEveryLength(t *testing.T) {
	for n := 0; n <= 70; n++ {
		by, b := elementOf(n), sample.Filled(n, 1)
		if gcm.Fold(by, b) != foldOf(by, b) {
			t.Errorf("%d bytes", n)
		}
		for m := 0; m <= 34; m++ {
			c := sample.Filled(m, 2)
			if gcm.Fold(by, b, c) != foldOf(by, b, c) {
				t.Errorf("%d bytes and %d", n, m)
			}
		}
	}
}

func TestFoldOfManyParts(t *testing.T) {
	r := rand.New(rand.NewSource(3))
	for seed := range 100 {
		var parts [][]byte
		for range r.Intn(8) {
			parts = append(parts, sample.Filled(r.Intn(50), seed))
		}
		if by := elementOf(seed); gcm.Fold(by, parts...) != foldOf(by, parts...) {
			t.Errorf("%d parts", len(parts))
		}
	}
}

func TestFoldOfNothing(t *testing.T) {
	by := elementOf(4)
	if gcm.Fold(by) != [16]byte{} || gcm.Fold(by, nil) != [16]byte{} || gcm.Fold(by, []byte{}, nil, []byte{}) != [16]byte{} {
		t.Error("nothing is folded to something")
	}
	b := sample.Filled(20, 4)
	if gcm.Fold(by, nil, b, []byte{}) != foldOf(by, b) || gcm.Fold(by, b, nil, nil, b) != foldOf(by, b, b) {
		t.Error("a part of no bytes has a block")
	}
	if gcm.Fold([16]byte{}, b) != [16]byte{} {
		t.Error("by nought")
	}
}

// Each part is filled up by itself: where it is cut counts, but for whole blocks.
func TestFoldOfPartsByThemselves(t *testing.T) {
	by, b := elementOf(5), sample.Filled(64, 5)
	whole := gcm.Fold(by, b)
	for i := 0; i <= 64; i++ {
		got := gcm.Fold(by, b[:i], b[i:])
		if got != foldOf(by, b[:i], b[i:]) || (got == whole) != (i%16 == 0) {
			t.Errorf("cut at %d", i)
		}
	}
	for n := 1; n <= 16; n++ {
		filled := append(bytes.Clone(b[:n]), make([]byte, 16-n)...)
		if gcm.Fold(by, b[:n], b) != gcm.Fold(by, filled, b) {
			t.Errorf("%d bytes aren't filled up with noughts", n)
		}
	}
	if gcm.Fold(by, b[:16], b[16:32]) == gcm.Fold(by, b[16:32], b[:16]) {
		t.Error("the parts' order")
	}
}

// What is behind a part in its memory isn't what it is filled up with, and all stays as it was.
func TestFoldChangesNothing(t *testing.T) {
	by := elementOf(6)
	for n := 0; n <= 40; n++ {
		b, c := sample.Filled(n, 6), sample.Filled(n, 7)
		p, q := sample.Roomy(b), sample.Roomy(c)
		parts := append(make([][]byte, 0, 4), p, q)
		got := gcm.Fold(by, parts...)
		if got != foldOf(by, b, c) {
			t.Errorf("parts of %d bytes, with spare room", n)
		}
		sample.Unchanged(t, "the first part", p, b)
		sample.Unchanged(t, "the second part", q, c)
		room := parts[:4]
		if !bytes.Equal(room[0], b) || !bytes.Equal(room[1], c) || room[2] != nil || room[3] != nil {
			t.Error("the list of parts was changed")
		}
		clear(p)
		clear(q)
		if gcm.Fold(by, b, c) != got {
			t.Errorf("parts of %d bytes were kept", n)
		}
	}
}
