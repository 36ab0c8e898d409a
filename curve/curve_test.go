package curve_test

import (
	"bytes"
	"crypto/ecdh"
	"encoding/hex"
	"math/big"
	"math/rand"
	"strings"
	"testing"

	"tollgate/api"
	"tollgate/curve"
	"tollgate/sample"
)

// publicOf is what Public must answer, by Go's library.
func publicOf(t *testing.T, secret [32]byte) []byte {
	t.Helper()
	key, err := ecdh.P256().NewPrivateKey(secret[:])
	if err != nil {
		t.Fatal(err)
	}
	return key.PublicKey().Bytes()
}

// sharedOf is what Shared must answer, by Go's library.
func sharedOf(t *testing.T, secret [32]byte, public []byte) [32]byte {
	t.Helper()
	key, err := ecdh.P256().NewPrivateKey(secret[:])
	if err != nil {
		t.Fatal(err)
	}
	other, err := ecdh.P256().NewPublicKey(public)
	if err != nil {
		t.Fatal(err)
	}
	b, err := key.ECDH(other)
	if err != nil {
		t.Fatal(err)
	}
	return [32]byte(b)
}

// secrets are good ones: at the edges, and others.
func secrets() [][32]byte {
	n := number(orderDigits)
	list := [][32]byte{bytesOf(small(1)), bytesOf(small(2)), bytesOf(small(3)), bytesOf(minus(n, small(1))), bytesOf(minus(n, small(2)))}
	for i := 8; i < 256; i += 31 {
		list = append(list, bytesOf(new(big.Int).Lsh(small(1), uint(i))))
	}
	for seed := range 20 {
		b := [32]byte(sample.Filled(32, seed))
		b[0] &= 0x7F
		list = append(list, b)
	}
	return list
}

// wrongSecrets are nought, the order and above it.
func wrongSecrets() [][32]byte {
	n := number(orderDigits)
	most := minus(new(big.Int).Lsh(small(1), 256), small(1))
	return [][32]byte{
		{}, bytesOf(n), bytesOf(plus(n, small(1))), bytesOf(plus(n, small(2))), bytesOf(number(primeDigits)), bytesOf(most),
		bytesOf(plus(n, new(big.Int).Lsh(small(1), 128))),
	}
}

func TestNumbersOfTheCurve(t *testing.T) {
	if curve.Base() != base() {
		t.Errorf("Base: %x", curve.Base())
	}
	order := curve.Order()
	if hex.EncodeToString(order[:]) != strings.ToLower(orderDigits) {
		t.Errorf("Order: %x", order)
	}
}

func TestOn(t *testing.T) {
	for _, p := range points() {
		if !curve.On(p) {
			t.Errorf("%x isn't on the curve", p)
		}
	}
	for _, p := range wrongPoints() {
		if curve.On(p) {
			t.Errorf("%x is on the curve", p)
		}
	}
	for _, p := range []curve.Point{base(), somePoint(1), edgePoints()[0], {}} {
		for bit := range 512 {
			if other := flipped(p, bit); curve.On(other) != holds(other) {
				t.Errorf("%x, bit %d: %v", p, bit, curve.On(other))
			}
		}
	}
}

func flipped(p curve.Point, bit int) curve.Point {
	if bit < 256 {
		p.X[bit/8] ^= 1 << (bit % 8)
	} else {
		p.Y[bit/8-32] ^= 1 << (bit % 8)
	}
	return p
}

// Each point with each: itself, its opposite and infinity among them; what is no point counts as infinity.
func TestAdd(t *testing.T) {
	list := append(points(), wrongPoints()...)
	for _, p := range list {
		for _, q := range list {
			if got, want := curve.Add(p, q), sumOf(p, q); got != want {
				t.Errorf("%x and %x: %x, not %x", p, q, got, want)
			}
		}
	}
}

func TestAddOfEdges(t *testing.T) {
	for _, p := range points() {
		if got := curve.Add(p, opposite(p)); got != (curve.Point{}) {
			t.Errorf("%x and its opposite: %x", p, got)
		}
		if curve.Add(p, curve.Point{}) != p || curve.Add(curve.Point{}, p) != p {
			t.Errorf("%x and infinity", p)
		}
		if got, want := curve.Add(p, p), timesOf(small(2), p); got != want {
			t.Errorf("%x and itself: %x, not %x", p, got, want)
		}
		for i, wrong := range wrongPoints() {
			if curve.Add(p, wrong) != p || curve.Add(wrong, p) != p {
				t.Errorf("%x and the wrong point %d", p, i)
			}
		}
	}
}

// The multiples that the standards' bodies published.
func TestKnownMultiples(t *testing.T) {
	for _, c := range []struct{ n, x, y string }{
		{"1", baseXDigits, baseYDigits},
		{"2", "7CF27B188D034F7E8A52380304B51AC3C08969E277F21B35A60B48FC47669978",
			"07775510DB8ED040293D9AC69F7430DBBA7DADE63CE982299E04B79D227873D1"},
		{"3", "5ECBE4D1A6330A44C8F7EF951D4BF165E6C6B721EFADA985FB41661BC6E7FD6C",
			"8734640C4998FF7E374B06CE1A64A2ECD82AB036384FB83D9A79B127A27D5032"},
		{orderDigits, "0", "0"},
		{"0", "0", "0"},
	} {
		if got := curve.Times(bytesOf(number(c.n)), curve.Base()); got != digits(c.x, c.y) {
			t.Errorf("%s times the base: %x", c.n, got)
		}
	}
}

func TestTimesOfSmallNumbers(t *testing.T) {
	for _, p := range append(points(), wrongPoints()[:3]...) {
		var want curve.Point
		for n := range int64(36) {
			if got := curve.Times(bytesOf(small(n)), p); got != want {
				t.Fatalf("%d times %x: %x, not %x", n, p, got, want)
			}
			want = sumOf(want, p)
		}
	}
}

func TestTimesOfEdges(t *testing.T) {
	n := number(orderDigits)
	numbers := []*big.Int{minus(new(big.Int).Lsh(small(1), 256), small(1)), number(primeDigits), new(big.Int).Lsh(small(1), 255)}
	for more := int64(-3); more <= 3; more++ {
		numbers = append(numbers, plus(n, small(more)), plus(new(big.Int).Rsh(n, 1), small(more)))
	}
	for _, p := range []curve.Point{base(), somePoint(7), edgePoints()[0], {}, wrongPoints()[0]} {
		for _, x := range numbers {
			if got, want := curve.Times(bytesOf(x), p), timesOf(x, p); got != want {
				t.Errorf("%x times %x: %x, not %x", x, p, got, want)
			}
		}
	}
	for _, p := range wrongPoints() {
		for _, x := range [][32]byte{bytesOf(small(1)), bytesOf(small(2)), bytesOf(n), [32]byte(sample.Filled(32, 1))} {
			if got := curve.Times(x, p); got != (curve.Point{}) {
				t.Errorf("%x times %x, which is no point: %x", x, p, got)
			}
		}
	}
	for _, p := range points() {
		if curve.Times(bytesOf(n), p) != (curve.Point{}) || curve.Times(bytesOf(plus(n, small(1))), p) != p ||
			curve.Times(bytesOf(minus(n, small(1))), p) != opposite(p) {
			t.Errorf("%x, about as often as the order says", p)
		}
	}
}

func TestTimesOfEveryBit(t *testing.T) {
	want := base()
	for i := range uint(256) {
		if got := curve.Times(bytesOf(new(big.Int).Lsh(small(1), i)), base()); got != want {
			t.Fatalf("2^%d times the base: %x, not %x", i, got, want)
		}
		want = sumOf(want, want)
	}
}

func TestTimesOfAnyNumber(t *testing.T) {
	for seed := range 20 {
		n, p := [32]byte(sample.Filled(32, seed)), somePoint(seed+20)
		if got, want := curve.Times(n, p), timesOf(bigOf(n), p); got != want {
			t.Errorf("%x times %x: %x, not %x", n, p, got, want)
		}
	}
}

func TestWriteAndRead(t *testing.T) {
	for _, p := range points()[1:] {
		want := append([]byte{4}, append(bytes.Clone(p.X[:]), p.Y[:]...)...)
		b := curve.Write(p)
		if !bytes.Equal(b, want) {
			t.Errorf("%x is written %x", p, b)
		}
		if got, e := curve.Read(want); got != p || e != api.OK {
			t.Errorf("%x is read %x, error %d", p, got, e)
		}
	}
	for _, p := range append(wrongPoints(), curve.Point{}) {
		if b := curve.Write(p); b != nil {
			t.Errorf("%x is written %x", p, b)
		}
		unread(t, append([]byte{4}, append(bytes.Clone(p.X[:]), p.Y[:]...)...))
	}
}

// unread: Read and Shared refuse it.
func unread(t *testing.T, b []byte) {
	t.Helper()
	if got, e := curve.Read(b); e != api.ErrPoint || got != (curve.Point{}) {
		t.Errorf("%d bytes, %x: read %x, error %d", len(b), b, got, e)
	}
	if got, e := curve.Shared([32]byte{31: 1}, b); e != api.ErrPoint || got != ([32]byte{}) {
		t.Errorf("%d bytes, %x: shared %x, error %d", len(b), b, got, e)
	}
}

func TestReadOfOtherSizes(t *testing.T) {
	p := somePoint(2)
	b := curve.Write(p)
	unread(t, nil)
	for n := range 65 {
		unread(t, b[:n])
		unread(t, b[65-n:])
		unread(t, make([]byte, n))
	}
	for _, more := range [][]byte{{0}, {4}, make([]byte, 65), b} {
		unread(t, append(bytes.Clone(b), more...))
		unread(t, append(bytes.Clone(more), b...))
	}
	unread(t, make([]byte, 65+256))
	// The standard's other forms: by X alone, and with both.
	unread(t, append([]byte{2}, p.X[:]...))
	unread(t, append([]byte{3}, p.X[:]...))
	for first := range 256 {
		if first != 4 {
			unread(t, append([]byte{byte(first)}, b[1:]...))
		}
	}
}

func TestReadOfWhatWasChanged(t *testing.T) {
	for _, p := range []curve.Point{base(), somePoint(3), edgePoints()[0]} {
		b := curve.Write(p)
		for bit := 8; bit < 8*len(b); bit++ {
			other := bytes.Clone(b)
			other[bit/8] ^= 1 << (bit % 8)
			if holds(flipped(p, bit-8)) {
				t.Fatal("by chance a point")
			}
			unread(t, other)
		}
	}
}

func TestPublic(t *testing.T) {
	for _, secret := range secrets() {
		if got, e := curve.Public(secret); e != api.OK || !bytes.Equal(got, publicOf(t, secret)) {
			t.Errorf("of %x: %x, error %d", secret, got, e)
		}
	}
	for _, secret := range wrongSecrets() {
		if got, e := curve.Public(secret); e != api.ErrArg || got != nil {
			t.Errorf("of %x: %x, error %d", secret, got, e)
		}
	}
}

// The first of the examples of NIST's tests of ECDH by P-256, and RFC 5903's.
func TestKnownShared(t *testing.T) {
	for _, c := range []struct{ secret, x, y, want string }{
		{"7d7dc5f71eb29ddaf80d6214632eeae03d9058af1fb6d22ed80badb62bc1a534",
			"700c48f77f56584c5cc632ca65640db91b6bacce3a4df6b42ce7cc838833d287",
			"db71e509e3fd9b060ddb20ba5c51dcc5948d46fbf640dfe0441782cab85fa4ac",
			"46fc62106420ff012e54a434fbdd2d25ccc5852060561e68040dd7778997bd7b"},
		{"C88F01F510D9AC3F70A292DAA2316DE544E9AAB8AFE84049C62A9C57862D1433",
			"D12DFB5289C8D4F81208B70270398C342296970A0BCCB74C736FC7554494BF63",
			"56FBF3CA366CC23E8157854C13C58D6AAC23F046ADA30F8353E74F33039872AB",
			"D6840F6B42F6EDAFD13116E0E12565202FEF8E9ECE7DCE03812464D04B9442DE"},
	} {
		got, e := curve.Shared(bytesOf(number(c.secret)), curve.Write(digits(c.x, c.y)))
		if e != api.OK || got != bytesOf(number(c.want)) {
			t.Errorf("by %s: %x, error %d", c.secret, got, e)
		}
	}
}

func TestShared(t *testing.T) {
	list := append(edgePoints(), somePoint(4), base(), opposite(base()))
	for i, secret := range secrets() {
		public := curve.Write(list[i%len(list)])
		want := sharedOf(t, secret, public)
		if got, e := curve.Shared(secret, public); e != api.OK || got != want {
			t.Errorf("of %x and %x: %x, not %x, error %d", secret, public, got, want, e)
		}
	}
	// An X of noughts is an answer, too.
	if got, e := curve.Shared([32]byte{31: 1}, curve.Write(edgePoints()[0])); e != api.OK || got != ([32]byte{}) {
		t.Errorf("an X of noughts: %x, error %d", got, e)
	}
}

// A wrong secret is told first, whatever the public bytes are.
func TestSharedBySecretsThatAreNone(t *testing.T) {
	for _, secret := range wrongSecrets() {
		for _, public := range [][]byte{curve.Write(base()), nil, {4}, make([]byte, 65)} {
			if got, e := curve.Shared(secret, public); e != api.ErrArg || got != ([32]byte{}) {
				t.Errorf("of %x and %x: %x, error %d", secret, public, got, e)
			}
		}
	}
}

func TestTwoShareOneSecret(t *testing.T) {
	list := secrets()
	for i, a := range list {
		b := list[(7*i+3)%len(list)]
		p, e := curve.Public(a)
		q, f := curve.Public(b)
		x, g := curve.Shared(a, q)
		y, h := curve.Shared(b, p)
		if e != api.OK || f != api.OK || g != api.OK || h != api.OK || x != y || (x == [32]byte{}) {
			t.Errorf("%x and %x: %x and %x", a, b, x, y)
		}
	}
}

func TestLawsOfTheGroup(t *testing.T) {
	list := points()
	r := rand.New(rand.NewSource(1))
	one := func() curve.Point { return list[r.Intn(len(list))] }
	for range 300 {
		p, q, s := one(), one(), one()
		if curve.Add(p, q) != curve.Add(q, p) {
			t.Errorf("%x and %x, the other way round", p, q)
		}
		if curve.Add(curve.Add(p, q), s) != curve.Add(p, curve.Add(q, s)) {
			t.Errorf("%x, %x and %x", p, q, s)
		}
		if !curve.On(curve.Add(p, q)) {
			t.Errorf("%x and %x make no point", p, q)
		}
	}
	n := number(orderDigits)
	for seed := range 20 {
		a, b := [32]byte(sample.Filled(32, seed)), [32]byte(sample.Filled(32, seed+50))
		p, q := one(), one()
		sum := new(big.Int).Mod(plus(bigOf(a), bigOf(b)), n)
		if curve.Times(bytesOf(sum), p) != curve.Add(curve.Times(a, p), curve.Times(b, p)) {
			t.Errorf("%x and %x times %x", a, b, p)
		}
		product := new(big.Int).Mod(times(bigOf(a), bigOf(b)), n)
		if curve.Times(bytesOf(product), p) != curve.Times(a, curve.Times(b, p)) {
			t.Errorf("%x times %x times %x", a, b, p)
		}
		if curve.Times(a, curve.Add(p, q)) != curve.Add(curve.Times(a, p), curve.Times(a, q)) {
			t.Errorf("%x times %x and %x", a, p, q)
		}
	}
}

func TestNothingIsKeptOrChanged(t *testing.T) {
	secret := [32]byte(sample.Filled(32, 30))
	want := curve.Write(somePoint(30))
	handed := sample.Roomy(want)
	p, e := curve.Read(handed)
	shared, f := curve.Shared(secret, handed)
	sample.Unchanged(t, "the public bytes", handed, want)
	clear(handed[:cap(handed)])
	if e != api.OK || f != api.OK || p != somePoint(30) || shared != sharedOf(t, secret, want) {
		t.Error("an answer changed with the public bytes")
	}
	if again, e := curve.Read(want); e != api.OK || again != p {
		t.Error("the public bytes were kept")
	}
	for _, size := range []int{0, 1, 64, 65, 66} {
		b := sample.Filled(size, 31)
		handed := sample.Roomy(b)
		curve.Read(handed)
		curve.Shared(secret, handed)
		sample.Unchanged(t, "bytes that are no point", handed, b)
	}
}

func TestAnswersAreNew(t *testing.T) {
	p, secret := somePoint(32), [32]byte(sample.Filled(32, 32))
	want, public := curve.Write(p), publicOf(t, secret)
	one := curve.Write(p)
	clear(one[:cap(one)])
	two, _ := curve.Public(secret)
	three, _ := curve.Public(secret)
	clear(two[:cap(two)])
	again, e := curve.Public(secret)
	if !bytes.Equal(curve.Write(p), want) || !bytes.Equal(three, public) || e != api.OK || !bytes.Equal(again, public) {
		t.Error("what is written isn't new memory")
	}
	b, n := curve.Base(), curve.Order()
	b.X[0] ^= 1
	n[0] ^= 1
	if curve.Base() != base() || curve.Order() != bytesOf(number(orderDigits)) {
		t.Error("the curve's numbers were changed")
	}
}
