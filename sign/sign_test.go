package sign_test

import (
	"bytes"
	"crypto/sha256"
	"math/big"
	"testing"

	"tollgate/api"
	"tollgate/curve"
	"tollgate/sample"
	"tollgate/sign"
)

func made(t *testing.T, secret, sum [32]byte) [64]byte {
	t.Helper()
	sig, e := sign.Make(secret, sum)
	if e != api.OK {
		t.Fatalf("of %x by %x: error %d", sum, secret, e)
	}
	return sig
}

func answers(t *testing.T, want api.Errno, public []byte, sum [32]byte, sig [64]byte, what string) {
	t.Helper()
	if e := sign.Check(public, sum, sig); e != want {
		t.Errorf("%s: error %d, not %d (%x, %x, %x)", what, e, want, public, sum, sig)
	}
}

// The examples of RFC 6979, A.2.5, for SHA-256.
func TestKnownSignatures(t *testing.T) {
	public := append([]byte{4}, sample.Bytes(t, "60FED4BA255A9D31C961EB74C6356D68C049B8923B61FA6CE669622E60F29FB6"+
		"7903FE1008B8BC99A41AE9E95628BC64F2F1B20C2D7E9F5177A3C294D4462299")...)
	for _, c := range []struct{ text, nonce, r, s string }{
		{"sample", "A6E3C57DD01ABE90086538398355DD4C3B17AA873382B0F24D6129493D8AAD60",
			"EFD48B2AACB6A8FD1140DD9CD45E81D69D2C877B56AAF991C34D0EA84EAF3716",
			"F7CB1C942D657C41D436C7A1B6E29F65F3E900DBB9AFF4064DC4AB2F843ACDA8"},
		{"test", "D16B6AE827F17175E040871A1C7EC3500192C4C92677336EC2537ACAEE0008E0",
			"F1ABB023518351CD71D881567B1EA663ED3EFCF6C5132B354F28D3B0B7D38367",
			"019F4113742A2B14BD25926B49C649155F267E60D3814B4C0CC84250E46F0083"},
	} {
		sum := sha256.Sum256([]byte(c.text))
		if got := sign.Nonce(rfcSecret(), sum); got != bytesOf(number(c.nonce)) {
			t.Errorf("%s: the nonce %x", c.text, got)
		}
		sig := made(t, rfcSecret(), sum)
		if sig != sigOf(number(c.r), number(c.s)) {
			t.Errorf("%s: %x", c.text, sig)
		}
		answers(t, api.OK, public, sum, sig, c.text)
	}
}

func TestNonce(t *testing.T) {
	for _, secret := range append(secrets(), wrongSecrets()...) {
		for _, sum := range sums() {
			want, _ := nonceOf(secret, sum)
			if got := sign.Nonce(secret, sum); got != want {
				t.Errorf("of %x by %x: %x, not %x", sum, secret, got, want)
			}
		}
	}
}

func TestNonceThatTakesTwoTurns(t *testing.T) {
	want, turns := nonceOf(rfcSecret(), againSum())
	if turns != 2 {
		t.Fatalf("%d turns", turns)
	}
	if got := sign.Nonce(rfcSecret(), againSum()); got != want {
		t.Errorf("%x, not %x", got, want)
	}
	if got, want := made(t, rfcSecret(), againSum()), signedBy(t, rfcSecret(), againSum()); got != want {
		t.Errorf("signed %x, not %x", got, want)
	}
}

func TestMakeAndCheck(t *testing.T) {
	for _, secret := range secrets() {
		public := publicOf(t, secret)
		for _, sum := range sums() {
			sig := made(t, secret, sum)
			if want := signedBy(t, secret, sum); sig != want {
				t.Errorf("of %x by %x: %x, not %x", sum, secret, sig, want)
			}
			answers(t, api.OK, public, sum, sig, "as it was made")
		}
	}
}

// From the document's words: r is the X of Base as often as the nonce, s is (the sum and r times the secret) over it.
func TestMakeByWords(t *testing.T) {
	for i, secret := range secrets() {
		sum := sums()[i%len(sums())]
		nonce := sign.Nonce(secret, sum)
		r := byOrder(bigOf(curve.Times(nonce, curve.Base()).X))
		s := over(plus(bigOf(sum), times(r, bigOf(secret))), bigOf(nonce))
		if got := made(t, secret, sum); got != sigOf(r, s) {
			t.Errorf("of %x by %x: %x", sum, secret, got)
		}
	}
}

func TestMakeBySecretsThatAreNone(t *testing.T) {
	for _, secret := range wrongSecrets() {
		for _, sum := range sums() {
			if sig, e := sign.Make(secret, sum); e != api.ErrArg || sig != ([64]byte{}) {
				t.Errorf("of %x by %x: %x, error %d", sum, secret, sig, e)
			}
		}
	}
}

func TestSumsThatAreTheSameByTheOrder(t *testing.T) {
	for i, secret := range secrets() {
		low := bytesOf(new(big.Int).SetBytes(sample.Filled(1+i, i)))
		high := bytesOf(plus(bigOf(low), order()))
		public, sig := publicOf(t, secret), made(t, secret, low)
		if sign.Nonce(secret, low) != sign.Nonce(secret, high) || made(t, secret, high) != sig {
			t.Errorf("by %x: %x and %x are signed otherwise", secret, low, high)
		}
		answers(t, api.OK, public, low, sig, "the lower sum")
		answers(t, api.OK, public, high, sig, "the higher sum")
	}
}

func TestCheckOfAnotherSum(t *testing.T) {
	secret := secrets()[7]
	public := publicOf(t, secret)
	for _, sum := range sums() {
		sig := made(t, secret, sum)
		for _, other := range sums() {
			if byOrder(bigOf(sum)).Cmp(byOrder(bigOf(other))) != 0 {
				answers(t, api.ErrSig, public, other, sig, "another sum")
			}
		}
	}
	sum := sums()[9]
	sig := made(t, secret, sum)
	for bit := range 256 {
		other := sum
		other[bit/8] ^= 1 << (bit % 8)
		answers(t, api.ErrSig, public, other, sig, "a bit of the sum")
	}
}

func TestCheckOfAnotherSignature(t *testing.T) {
	secret, sum := secrets()[8], sums()[10]
	public := publicOf(t, secret)
	sig := made(t, secret, sum)
	for bit := range 512 {
		other := sig
		other[bit/8] ^= 1 << (bit % 8)
		answers(t, api.ErrSig, public, sum, other, "a bit of the signature")
	}
	r, s := split(sig)
	answers(t, api.ErrSig, public, sum, sigOf(s, r), "r and s for each other")
	answers(t, api.ErrSig, public, sum, sigOf(minus(order(), r), s), "r's opposite")
	answers(t, api.ErrSig, public, sum, made(t, secrets()[9], sum), "another's signature")
	answers(t, api.ErrSig, public, sum, [64]byte{}, "noughts")
	// The point of s' opposite is the opposite point, whose X is the same: the words let it hold.
	answers(t, api.OK, public, sum, sigOf(r, minus(order(), s)), "s' opposite")
}

func TestCheckByOtherPublicBytes(t *testing.T) {
	sum := sums()[11]
	for i, secret := range secrets() {
		sig := made(t, secret, sum)
		for j, other := range secrets() {
			if i != j {
				answers(t, api.ErrSig, publicOf(t, other), sum, sig, "another's public bytes")
			}
		}
	}
	// The opposite point is another secret's.
	secret := secrets()[6]
	opposite := publicOf(t, bytesOf(minus(order(), bigOf(secret))))
	answers(t, api.ErrSig, opposite, sum, made(t, secret, sum), "the opposite point")
}

// Public bytes that are none are told first, whatever the signature is.
func TestCheckByPublicBytesThatAreNone(t *testing.T) {
	secret, sum := secrets()[9], sums()[12]
	public, sig := publicOf(t, secret), made(t, secret, sum)
	for _, s := range [][64]byte{sig, {}, sigOf(order(), order())} {
		answers(t, api.ErrPoint, nil, sum, s, "no bytes")
		answers(t, api.ErrPoint, make([]byte, 65), sum, s, "noughts")
		answers(t, api.ErrPoint, append([]byte{4}, make([]byte, 64)...), sum, s, "infinity")
		answers(t, api.ErrPoint, append(bytes.Clone(public), 0), sum, s, "a byte more")
		answers(t, api.ErrPoint, append([]byte{0}, public...), sum, s, "a byte ahead")
		answers(t, api.ErrPoint, append([]byte{2 + public[64]&1}, public[1:33]...), sum, s, "X alone")
		for n := range 65 {
			answers(t, api.ErrPoint, public[:n], sum, s, "too few bytes")
		}
	}
	for bit := range 8 * len(public) {
		other := bytes.Clone(public)
		other[bit/8] ^= 1 << (bit % 8)
		answers(t, api.ErrPoint, other, sum, sig, "a bit of the public bytes")
	}
}

func TestCheckOfNumbersOutOfRange(t *testing.T) {
	secret, sum := secrets()[10], sums()[13]
	public := publicOf(t, secret)
	r, s := split(made(t, secret, sum))
	for _, wrong := range []*big.Int{small(0), order(), plus(order(), small(1)), most()} {
		answers(t, api.ErrSig, public, sum, sigOf(wrong, s), "r out of range")
		answers(t, api.ErrSig, public, sum, sigOf(r, wrong), "s out of range")
		answers(t, api.ErrSig, public, sum, sigOf(wrong, wrong), "both out of range")
	}
	for _, other := range []*big.Int{small(1), small(2), minus(order(), small(1))} {
		answers(t, api.ErrSig, public, sum, sigOf(other, s), "another r")
		answers(t, api.ErrSig, public, sum, sigOf(r, other), "another s")
	}
}

// By sums that are nought and an r of nought both points are infinity, which has no X, and none that is r.
func TestCheckOfNoughts(t *testing.T) {
	public := publicOf(t, secrets()[6])
	for _, sum := range [][32]byte{{}, bytesOf(order())} {
		for _, s := range []*big.Int{small(0), small(1), small(5), minus(order(), small(1)), order()} {
			answers(t, api.ErrSig, public, sum, sigOf(small(0), s), "r is nought")
			answers(t, api.ErrSig, public, sum, sigOf(order(), s), "r is the order")
		}
	}
}

// signed is who made, with the point R, a signature of the sum with this s: it is (s times R less sum times Base) over r.
func signed(point curve.Point, r, s *big.Int, sum [32]byte) []byte {
	first := curve.Times(bytesOf(over(s, r)), point)
	second := curve.Times(bytesOf(over(minus(order(), byOrder(bigOf(sum))), r)), curve.Base())
	return curve.Write(curve.Add(first, second))
}

// An X that is not below the order: r is what is left of it, and X itself is no r.
func TestCheckOfPointsWithAHighX(t *testing.T) {
	x := plus(order(), small(3))
	point := curve.Point{X: bytesOf(x), Y: bytesOf(number("484F0C0FDA434EF0A808458914F328715D7A545E198AC7EEE31DFFE861B5D23F"))}
	r, s := small(3), byOrder(new(big.Int).SetBytes(sample.Filled(32, 40)))
	for _, sum := range sums() {
		public := signed(point, r, s, sum)
		answers(t, api.OK, public, sum, sigOf(r, s), "a high X")
		answers(t, api.ErrSig, public, sum, sigOf(x, s), "a high r")
		if !checks(t, public, sum, sigOf(r, s)) || checks(t, public, sum, sigOf(x, s)) {
			t.Error("the library says otherwise")
		}
	}
}

// With a small s: what is the same modulo the order, but not below it, isn't that s.
func TestCheckOfAHighS(t *testing.T) {
	point := curve.Times(bytesOf(small(12345)), curve.Base())
	r := byOrder(bigOf(point.X))
	for _, s := range []*big.Int{small(1), small(2), small(99)} {
		for _, sum := range sums() {
			public := signed(point, r, s, sum)
			answers(t, api.OK, public, sum, sigOf(r, s), "a small s")
			answers(t, api.ErrSig, public, sum, sigOf(r, plus(order(), s)), "a high s")
		}
	}
}

// The sum is r times the secret, or its opposite: both points that are added are the same, or opposites.
func TestCheckOfPointsThatAreTheSame(t *testing.T) {
	for _, secret := range secrets() {
		public, often := publicOf(t, secret), small(777)
		r := byOrder(bigOf(curve.Times(bytesOf(times(small(2), often)), curve.Base()).X))
		sum := times(r, bigOf(secret))
		sig := sigOf(r, over(sum, often))
		answers(t, api.OK, public, bytesOf(sum), sig, "the same point twice")
		answers(t, api.ErrSig, public, bytesOf(minus(order(), sum)), sig, "opposite points")
		for _, r := range []*big.Int{small(1), minus(order(), small(1))} {
			opposite := minus(order(), times(r, bigOf(secret)))
			answers(t, api.ErrSig, public, bytesOf(opposite), sigOf(r, small(1)), "infinity")
		}
	}
}

// Whatever is checked, Go's library says the same.
func TestCheckOfAnything(t *testing.T) {
	for seed := range 60 {
		secret := secrets()[seed%len(secrets())]
		public, sum := publicOf(t, secret), [32]byte(sample.Filled(32, seed+200))
		sig := [64]byte(sample.Filled(64, seed))
		if seed%3 == 0 {
			sig = made(t, secret, sum)
		}
		if seed%6 == 0 {
			sum[seed%32] ^= byte(seed)
		}
		want := api.ErrSig
		if checks(t, public, sum, sig) {
			want = api.OK
		}
		answers(t, want, public, sum, sig, "anything")
	}
}

func TestNothingIsKeptOrChanged(t *testing.T) {
	secret, sum := secrets()[11], sums()[9]
	public := publicOf(t, secret)
	handed := sample.Roomy(public)
	sig := made(t, secret, sum)
	answers(t, api.OK, handed, sum, sig, "with spare room")
	answers(t, api.ErrSig, handed, sums()[10], sig, "with spare room, another sum")
	sample.Unchanged(t, "the public bytes", handed, public)
	clear(handed[:cap(handed)])
	answers(t, api.OK, public, sum, sig, "again")
	for _, n := range []int{0, 1, 64, 65, 66} {
		b := sample.Filled(n, 50)
		handed := sample.Roomy(b)
		answers(t, api.ErrPoint, handed, sum, sig, "bytes that are no point")
		sample.Unchanged(t, "bytes that are no point", handed, b)
	}
}

// An answer hangs on nothing that was asked ahead.
func TestAnswersStayTheSame(t *testing.T) {
	secret, sum := secrets()[6], sums()[8]
	sig, nonce := made(t, secret, sum), sign.Nonce(secret, sum)
	for i, other := range secrets() {
		sign.Make(other, sums()[i])
		sign.Nonce(other, sums()[i])
		sign.Check(publicOf(t, other), sums()[i], sig)
	}
	if made(t, secret, sum) != sig || sign.Nonce(secret, sum) != nonce {
		t.Error("signed otherwise")
	}
}
