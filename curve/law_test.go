package curve_test

import (
	"math/big"
	"testing"

	"tollgate/curve"
	"tollgate/sample"
)

const (
	primeDigits    = "FFFFFFFF00000001000000000000000000000000FFFFFFFFFFFFFFFFFFFFFFFF"
	constantDigits = "5AC635D8AA3A93E7B3EBBD55769886BC651D06B0CC53B0F63BCE3C3E27D2604B"
	orderDigits    = "FFFFFFFF00000000FFFFFFFFFFFFFFFFBCE6FAADA7179E84F3B9CAC2FC632551"
	baseXDigits    = "6B17D1F2E12C4247F8BCE6E563A440F277037D812DEB33A0F4A13945D898C296"
	baseYDigits    = "4FE342E2FE1A7F9B8EE7EB4A7C0F9E162BCE33576B315ECECBB6406837BF51F5"
)

func number(digits string) *big.Int {
	n, ok := new(big.Int).SetString(digits, 16)
	if !ok {
		panic("no number: " + digits)
	}
	return n
}

func small(n int64) *big.Int { return big.NewInt(n) }

func plus(a, b *big.Int) *big.Int  { return new(big.Int).Add(a, b) }
func minus(a, b *big.Int) *big.Int { return new(big.Int).Sub(a, b) }
func times(a, b *big.Int) *big.Int { return new(big.Int).Mul(a, b) }

func byPrime(a *big.Int) *big.Int { return new(big.Int).Mod(a, number(primeDigits)) }

// bytesOf takes a number below 2^256.
func bytesOf(n *big.Int) [32]byte {
	var b [32]byte
	n.FillBytes(b[:])
	return b
}

func bigOf(b [32]byte) *big.Int { return new(big.Int).SetBytes(b[:]) }

func pointOf(x, y *big.Int) curve.Point { return curve.Point{X: bytesOf(x), Y: bytesOf(y)} }

func digits(x, y string) curve.Point { return pointOf(number(x), number(y)) }

func base() curve.Point { return digits(baseXDigits, baseYDigits) }

// right is x^3 - 3x + b.
func right(x *big.Int) *big.Int {
	cube := times(x, times(x, x))
	return byPrime(plus(minus(cube, times(small(3), x)), number(constantDigits)))
}

// holds is what On must answer of all but infinity, from the document's words alone.
func holds(p curve.Point) bool {
	x, y, prime := bigOf(p.X), bigOf(p.Y), number(primeDigits)
	return x.Cmp(prime) < 0 && y.Cmp(prime) < 0 && byPrime(times(y, y)).Cmp(right(x)) == 0
}

func opposite(p curve.Point) curve.Point {
	if p == (curve.Point{}) {
		return p
	}
	return pointOf(bigOf(p.X), minus(number(primeDigits), bigOf(p.Y)))
}

// sumOf is what Add must answer: by the line through both points, or the tangent.
func sumOf(p, q curve.Point) curve.Point {
	if !holds(p) {
		p = curve.Point{}
	}
	if !holds(q) {
		q = curve.Point{}
	}
	switch {
	case p == curve.Point{}:
		return q
	case q == curve.Point{}:
		return p
	case p == opposite(q):
		return curve.Point{}
	}
	x1, y1, x2, y2 := bigOf(p.X), bigOf(p.Y), bigOf(q.X), bigOf(q.Y)
	rise, run := minus(y2, y1), minus(x2, x1)
	if p == q {
		rise, run = minus(times(small(3), times(x1, x1)), small(3)), times(small(2), y1)
	}
	slope := byPrime(times(rise, new(big.Int).ModInverse(byPrime(run), number(primeDigits))))
	x := byPrime(minus(minus(times(slope, slope), x1), x2))
	return pointOf(x, byPrime(minus(times(slope, minus(x1, x)), y1)))
}

// timesOf is what Times must answer.
func timesOf(n *big.Int, p curve.Point) curve.Point {
	var sum curve.Point
	for i := n.BitLen() - 1; i >= 0; i-- {
		sum = sumOf(sum, sum)
		if n.Bit(i) == 1 {
			sum = sumOf(sum, p)
		}
	}
	return sum
}

// withX is a point that has an X, if there is one.
func withX(x *big.Int) (curve.Point, bool) {
	y := new(big.Int).ModSqrt(right(x), number(primeDigits))
	if y == nil {
		return curve.Point{}, false
	}
	return pointOf(x, y), true
}

// somePoint is one that follows no short rule, another for each seed.
func somePoint(seed int) curve.Point {
	x := byPrime(new(big.Int).SetBytes(sample.Filled(32, seed)))
	for {
		if p, ok := withX(x); ok {
			return p
		}
		x = byPrime(plus(x, small(1)))
	}
}

// The points at the edges: without an X, and those whose X or Y is so small that with p more it has 32 bytes, too.
func edgePoints() []curve.Point {
	points := []curve.Point{
		digits("0", "66485C780E2F83D72433BD5D84A06BB6541C2AF31DAE871728BF856A174F93F4"),
		digits("D7325D7646CD60D80A92738CEB345F844CFFAF35841022CAB176F692DE8DE1D7", "5"),
		digits("9B21C2DE1DA31D68731DBDAF97D7AB3F979131E28E3DC5B2077D5A7187914A78", "6"),
	}
	for _, x := range []int64{5, 6, 8, 9} {
		p, _ := withX(small(x))
		points = append(points, p)
	}
	// X that is not below the order, and the greatest that there is.
	for x := number(orderDigits); len(points) < 9; x = plus(x, small(1)) {
		if p, ok := withX(x); ok {
			points = append(points, p)
		}
	}
	for x := minus(number(primeDigits), small(1)); len(points) < 10; x = minus(x, small(1)) {
		if p, ok := withX(x); ok {
			points = append(points, p)
		}
	}
	return points
}

// points are infinity, multiples of the base and their opposites, those at the edges, and others.
func points() []curve.Point {
	list := append([]curve.Point{{}}, edgePoints()...)
	for n := int64(1); n < 6; n++ {
		list = append(list, timesOf(small(n), base()), opposite(timesOf(small(n), base())))
	}
	for seed := range 6 {
		list = append(list, somePoint(seed))
	}
	return append(list, opposite(list[len(list)-1]), opposite(list[1]))
}

// wrongPoints are none, neither by the equation nor by their size.
func wrongPoints() []curve.Point {
	x, y, prime := number(baseXDigits), number(baseYDigits), number(primeDigits)
	most := minus(new(big.Int).Lsh(small(1), 256), small(1))
	list := []curve.Point{
		pointOf(x, plus(y, small(1))), pointOf(x, minus(y, small(1))), pointOf(plus(x, small(1)), y), pointOf(y, x),
		pointOf(x, small(0)), pointOf(small(0), y), pointOf(small(0), small(1)), pointOf(small(1), small(0)),
		pointOf(small(1), small(1)), pointOf(prime, small(0)), pointOf(small(0), prime), pointOf(prime, prime),
		pointOf(most, most), pointOf(x, prime), pointOf(prime, y), pointOf(x, most), pointOf(most, y),
	}
	// These hold modulo p, but aren't below it.
	for _, p := range edgePoints() {
		for _, more := range []curve.Point{{X: bytesOf(prime)}, {Y: bytesOf(prime)}, {X: bytesOf(prime), Y: bytesOf(prime)}} {
			x, y := plus(bigOf(p.X), bigOf(more.X)), plus(bigOf(p.Y), bigOf(more.Y))
			if x.Cmp(most) <= 0 && y.Cmp(most) <= 0 {
				list = append(list, pointOf(x, y))
			}
		}
	}
	return list
}

// The tests' own points are what they are said to be.
func TestSamples(t *testing.T) {
	for i, p := range points() {
		if !holds(p) && p != (curve.Point{}) {
			t.Errorf("point %d: %x", i, p)
		}
	}
	beyond := 0
	for i, p := range wrongPoints() {
		if holds(p) || (p == curve.Point{}) {
			t.Errorf("wrong point %d: %x", i, p)
		}
		if holds(pointOf(byPrime(bigOf(p.X)), byPrime(bigOf(p.Y)))) {
			beyond++
		}
	}
	if beyond < 7 {
		t.Errorf("%d points that hold modulo p alone", beyond)
	}
}
