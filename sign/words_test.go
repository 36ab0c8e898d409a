package sign_test

import (
	"crypto"
	"crypto/ecdsa"
	"crypto/elliptic"
	"crypto/hmac"
	"crypto/sha256"
	"encoding/asn1"
	"math/big"
	"testing"

	"tollgate/api"
	"tollgate/curve"
	"tollgate/sample"
)

const orderDigits = "FFFFFFFF00000000FFFFFFFFFFFFFFFFBCE6FAADA7179E84F3B9CAC2FC632551"

func number(digits string) *big.Int {
	n, ok := new(big.Int).SetString(digits, 16)
	if !ok {
		panic("no number: " + digits)
	}
	return n
}

func order() *big.Int { return number(orderDigits) }

func small(n int64) *big.Int { return big.NewInt(n) }

func plus(a, b *big.Int) *big.Int  { return new(big.Int).Add(a, b) }
func minus(a, b *big.Int) *big.Int { return new(big.Int).Sub(a, b) }

func most() *big.Int { return minus(new(big.Int).Lsh(small(1), 256), small(1)) }

// byOrder, times and over reckon modulo the order.
func byOrder(a *big.Int) *big.Int { return new(big.Int).Mod(a, order()) }

func times(a, b *big.Int) *big.Int { return byOrder(new(big.Int).Mul(a, b)) }

func over(a, b *big.Int) *big.Int { return times(a, new(big.Int).ModInverse(b, order())) }

// bytesOf takes a number below 2^256.
func bytesOf(n *big.Int) [32]byte {
	var b [32]byte
	n.FillBytes(b[:])
	return b
}

func bigOf(b [32]byte) *big.Int { return new(big.Int).SetBytes(b[:]) }

func sigOf(r, s *big.Int) [64]byte {
	var sig [64]byte
	r.FillBytes(sig[:32])
	s.FillBytes(sig[32:])
	return sig
}

// split is a signature's r and s.
func split(sig [64]byte) (r, s *big.Int) {
	return new(big.Int).SetBytes(sig[:32]), new(big.Int).SetBytes(sig[32:])
}

func inRange(n *big.Int) bool { return n.Sign() > 0 && n.Cmp(order()) < 0 }

func markOf(key []byte, parts ...[]byte) []byte {
	h := hmac.New(sha256.New, key)
	for _, part := range parts {
		h.Write(part)
	}
	return h.Sum(nil)
}

// nonceOf is what Nonce must answer, from the document's words alone, and how many turns it took.
func nonceOf(secret, sum [32]byte) (nonce [32]byte, turns int) {
	h := bytesOf(byOrder(bigOf(sum)))
	v, k := make([]byte, 32), make([]byte, 32)
	for i := range v {
		v[i] = 1
	}
	k = markOf(k, v, []byte{0}, secret[:], h[:])
	v = markOf(k, v)
	k = markOf(k, v, []byte{1}, secret[:], h[:])
	v = markOf(k, v)
	for turns = 1; ; turns++ {
		v = markOf(k, v)
		if inRange(new(big.Int).SetBytes(v)) {
			return [32]byte(v), turns
		}
		k = markOf(k, v, []byte{0})
		v = markOf(k, v)
	}
}

// signedBy is what Make must answer, by Go's library.
func signedBy(t *testing.T, secret, sum [32]byte) [64]byte {
	t.Helper()
	key, err := ecdsa.ParseRawPrivateKey(elliptic.P256(), secret[:])
	if err != nil {
		t.Fatal(err)
	}
	b, err := key.Sign(nil, sum[:], crypto.SHA256)
	if err != nil {
		t.Fatal(err)
	}
	var sig struct{ R, S *big.Int }
	if _, err := asn1.Unmarshal(b, &sig); err != nil {
		t.Fatal(err)
	}
	return sigOf(sig.R, sig.S)
}

// checks is whether Check must answer OK, by Go's library.
func checks(t *testing.T, public []byte, sum [32]byte, sig [64]byte) bool {
	t.Helper()
	key, err := ecdsa.ParseUncompressedPublicKey(elliptic.P256(), public)
	if err != nil {
		t.Fatal(err)
	}
	r, s := split(sig)
	return ecdsa.Verify(key, sum[:], r, s)
}

func publicOf(t *testing.T, secret [32]byte) []byte {
	t.Helper()
	public, e := curve.Public(secret)
	if e != api.OK {
		t.Fatalf("public bytes of %x: error %d", secret, e)
	}
	return public
}

// secrets are good ones: at the edges, and others.
func secrets() [][32]byte {
	list := [][32]byte{
		rfcSecret(), bytesOf(small(1)), bytesOf(small(2)), bytesOf(minus(order(), small(1))), bytesOf(minus(order(), small(2))),
		bytesOf(new(big.Int).Lsh(small(1), 255)),
	}
	for seed := range 6 {
		list = append(list, bytesOf(byOrder(new(big.Int).SetBytes(sample.Filled(32, seed)))))
	}
	return list
}

// wrongSecrets are nought, the order and above it.
func wrongSecrets() [][32]byte {
	return [][32]byte{
		{}, bytesOf(order()), bytesOf(plus(order(), small(1))), bytesOf(plus(order(), small(2))), bytesOf(most()),
		bytesOf(minus(most(), small(1))), bytesOf(plus(order(), new(big.Int).Lsh(small(1), 128))),
	}
}

// sums are those at the edges, and others.
func sums() [][32]byte {
	list := [][32]byte{
		{}, bytesOf(small(1)), bytesOf(minus(order(), small(1))), bytesOf(order()), bytesOf(plus(order(), small(1))),
		bytesOf(most()), sha256.Sum256([]byte("sample")), againSum(),
	}
	for seed := range 6 {
		list = append(list, [32]byte(sample.Filled(32, seed+100)))
	}
	return list
}

// rfcSecret is that of RFC 6979, A.2.5.
func rfcSecret() [32]byte {
	return bytesOf(number("C9AFA9D845BA75166B5C215767B1D6934E50C3DB36E89B127B8A622B120F6721"))
}

// againSum is one for which rfcSecret's first V is above the order: about one in 2^32 is such.
func againSum() [32]byte { return bytesOf(small(1376198122)) }
