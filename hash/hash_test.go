package hash_test

import (
	"bytes"
	"crypto/sha256"
	"encoding/hex"
	"math/rand"
	"strings"
	"testing"

	"tollgate/hash"
	"tollgate/sample"
)

func TestKnownSums(t *testing.T) {
	for _, c := range []struct{ text, sum string }{
		{"", "e3b0c44298fc1c149afbf4c8996fb92427ae41e4649b934ca495991b7852b855"},
		{"abc", "ba7816bf8f01cfea414140de5dae2223b00361a396177a9cb410ff61f20015ad"},
		{"abcdbcdecdefdefgefghfghighijhijkijkljklmklmnlmnomnopnopq",
			"248d6a61d20638b8e5c026930c3e6039a33ce45964ff2167f6ecedd419db06c1"},
		{"abcdefghbcdefghicdefghijdefghijkefghijklfghijklmghijklmnhijklmnoijklmnopjklmnopqklmnopqrlmnopqrsmnopqrstnopqrstu",
			"cf5b16a778af8380036ce59e7b0492370b249b11e8f07a51afac45037afee9d1"},
		{strings.Repeat("a", 1000000), "cdc76e5c9914fb9281a1c7e284d73e67f1809a48a497200e046d39ccc7112cd0"},
	} {
		sum := hash.Of([]byte(c.text))
		if hex.EncodeToString(sum[:]) != c.sum {
			t.Errorf("of %d bytes: %x, not %s", len(c.text), sum, c.sum)
		}
	}
}

func TestNoBytes(t *testing.T) {
	none := sha256.Sum256(nil)
	if hash.Of() != none || hash.Of(nil) != none || hash.Of([]byte{}) != none || hash.Of(nil, []byte{}, nil) != none {
		t.Error("Of no bytes")
	}
	s := hash.New()
	if s == nil {
		t.Fatal("New is nil")
	}
	if s.Sum() != none || s.Size() != 0 {
		t.Error("New isn't of no bytes")
	}
	s.Put()
	s.Put(nil)
	s.Put([]byte{}, nil)
	if s.Sum() != none || s.Size() != 0 {
		t.Error("to put no bytes changed a state")
	}
	s.Put([]byte("a"))
	s.Put()
	s.Put(nil, []byte{})
	if s.Sum() != sha256.Sum256([]byte("a")) || s.Size() != 1 {
		t.Error("to put no bytes changed a state of one")
	}
}

func TestEveryLength(t *testing.T) {
	for n := 0; n <= 520; n++ {
		b := sample.Filled(n, 0)
		want := sha256.Sum256(b)
		if hash.Of(b) != want {
			t.Errorf("Of %d bytes", n)
		}
		s := hash.New()
		for i := range b {
			s.Put(b[i : i+1])
		}
		if s.Sum() != want || s.Size() != n {
			t.Errorf("%d bytes, one by one", n)
		}
	}
}

func TestCutAnywhere(t *testing.T) {
	for _, n := range []int{1, 2, 55, 56, 63, 64, 65, 119, 120, 127, 128, 129, 191, 192, 193, 300} {
		b := sample.Filled(n, 0)
		want := sha256.Sum256(b)
		for i := 0; i <= n; i++ {
			if hash.Of(b[:i], b[i:]) != want {
				t.Errorf("Of %d bytes, cut at %d", n, i)
			}
			s := hash.New()
			s.Put(b[:i])
			if s.Sum() != sha256.Sum256(b[:i]) || s.Size() != i {
				t.Errorf("the first %d of %d bytes", i, n)
			}
			s.Put(b[i:])
			if s.Sum() != want || s.Size() != n {
				t.Errorf("%d bytes put, cut at %d", n, i)
			}
		}
	}
}

func TestPartsOfAnySize(t *testing.T) {
	r := rand.New(rand.NewSource(1))
	for range 400 {
		b := sample.Filled(r.Intn(2000), 0)
		want := sha256.Sum256(b)
		var parts [][]byte
		s := hash.New()
		for rest := b; len(rest) > 0; {
			n := min(r.Intn(150), len(rest))
			parts = append(parts, rest[:n])
			rest = rest[n:]
		}
		if hash.Of(parts...) != want {
			t.Fatalf("Of %d bytes in %d parts", len(b), len(parts))
		}
		half := len(parts) / 2
		s.Put(parts[:half]...)
		s.Sum()
		s.Put(parts[half:]...)
		if s.Sum() != want || s.Size() != len(b) {
			t.Fatalf("%d bytes put in %d parts", len(b), len(parts))
		}
	}
}

func TestPartsHaveAnOrder(t *testing.T) {
	a, b := []byte("first"), []byte("second")
	if hash.Of(a, b) == hash.Of(b, a) || hash.Of(a, b) != hash.Of([]byte("firstsecond")) {
		t.Error("the parts' order")
	}
}

// More than 2^32 bits: the count at the end takes more than four bytes.
func TestManyBytes(t *testing.T) {
	const times = 1<<9 + 1
	part := sample.Filled(1<<20, 0)
	s, want := hash.New(), sha256.New()
	for range times {
		s.Put(part)
		want.Write(part)
	}
	s.Put([]byte("end"))
	want.Write([]byte("end"))
	sum := s.Sum()
	if !bytes.Equal(sum[:], want.Sum(nil)) || s.Size() != times<<20+3 {
		t.Errorf("%d bytes: %x", s.Size(), sum)
	}
}

func TestSumLeavesTheState(t *testing.T) {
	for n := 0; n <= 200; n++ {
		b := sample.Filled(n, 0)
		s := hash.New()
		s.Put(b)
		once := s.Sum()
		if s.Sum() != once || s.Size() != n {
			t.Errorf("a second sum of %d bytes", n)
		}
		s.Put([]byte("more"))
		if s.Sum() != sha256.Sum256(append(b, "more"...)) || s.Size() != n+4 {
			t.Errorf("what goes on behind a sum of %d bytes", n)
		}
	}
}

func TestCopiesGoTheirOwnWays(t *testing.T) {
	x, y := sample.Filled(77, 0), []byte("other bytes")
	for n := 0; n <= 200; n++ {
		b := sample.Filled(n, 0)
		s := hash.New()
		s.Put(b)
		u := s.Copy()
		if u == nil || u == s {
			t.Fatal("Copy isn't another state")
		}
		if u.Sum() != s.Sum() || u.Size() != n {
			t.Errorf("a copy of %d bytes", n)
		}
		s.Put(x)
		if u.Sum() != sha256.Sum256(b) || u.Size() != n {
			t.Errorf("the copy of %d bytes changed with the first", n)
		}
		u.Put(y)
		v := u.Copy()
		v.Put(x)
		if s.Sum() != hash.Of(b, x) || s.Size() != n+len(x) {
			t.Errorf("the first of %d bytes changed with the copy", n)
		}
		if u.Sum() != hash.Of(b, y) || v.Sum() != hash.Of(b, y, x) || v.Size() != n+len(y)+len(x) {
			t.Errorf("copies of %d bytes", n)
		}
	}
}

func TestStatesAreApart(t *testing.T) {
	b, c := sample.Filled(500, 0), sample.Filled(501, 0)
	s, u := hash.New(), hash.New()
	for i := range b {
		s.Put(b[i : i+1])
		u.Put(c[i : i+1])
		hash.Of(c)
	}
	if s.Sum() != sha256.Sum256(b) || u.Sum() != sha256.Sum256(c[:500]) {
		t.Error("one state has what another was put")
	}
}

func TestNilState(t *testing.T) {
	var s *hash.State
	s.Put()
	s.Put([]byte("abc"), nil)
	if s.Sum() != [32]byte{} || s.Size() != 0 || s.Copy() != nil {
		t.Error("a nil state says something")
	}
}

func TestNothingIsKeptOrChanged(t *testing.T) {
	for _, n := range []int{0, 1, 5, 63, 64, 65, 128, 200} {
		b, c := sample.Filled(n, 0), sample.Filled(n+3, 0)
		p, q := sample.Roomy(b), sample.Roomy(c)
		parts := append(make([][]byte, 0, 4), p, q)
		s := hash.New()
		s.Put(parts...)
		u := s.Copy()
		sum := hash.Of(parts...)
		s.Sum()
		sample.Unchanged(t, "the first part", p, b)
		sample.Unchanged(t, "the second part", q, c)
		room := parts[:4]
		if !bytes.Equal(room[0], b) || !bytes.Equal(room[1], c) || room[2] != nil || room[3] != nil {
			t.Error("the list of parts was changed")
		}
		for _, x := range [][]byte{p, q} {
			for i := range x {
				x[i] ^= 0x55
			}
		}
		parts[0], parts[1] = nil, nil
		want := sha256.Sum256(append(bytes.Clone(b), c...))
		if sum != want || s.Sum() != want || u.Sum() != want {
			t.Errorf("parts of %d bytes were kept", n)
		}
		s.Put(b)
		if s.Sum() != hash.Of(b, c, b) {
			t.Errorf("parts of %d bytes were kept, and go on", n)
		}
	}
}
