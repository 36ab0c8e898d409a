package curve

import (
	"tollgate/api"
	"tollgate/mont"
)

// The curve's numbers, their lowest parts first.
var (
	prime    = mont.Num{0xffffffffffffffff, 0x00000000ffffffff, 0x0000000000000000, 0xffffffff00000001}
	order    = mont.Num{0xf3b9cac2fc632551, 0xbce6faada7179e84, 0xffffffffffffffff, 0xffffffff00000000}
	constant = mont.Num{0x3bce3c3e27d2604b, 0x651d06b0cc53b0f6, 0xb3ebbd55769886bc, 0x5ac635d8aa3a93e7}
	baseX    = mont.Num{0xf4a13945d898c296, 0x77037d812deb33a0, 0xf8bce6e563a440f2, 0x6b17d1f2e12c4247}
	baseY    = mont.Num{0xcbb6406837bf51f5, 0x2bce33576b315ece, 0x8ee7eb4a7c0f9e16, 0x4fe342e2fe1a7f9b}
)

// spot is a point that has X = x over z and Y = y over z, so that sums need no division; z is 0 for infinity alone.
type spot struct {
	x, y, z mont.Num
}

var infinity = spot{y: mont.Num{1}}

// group reckons by the prime.
type group struct {
	*mont.Mod
}

func newGroup() group {
	m, _ := mont.New(prime)
	return group{m}
}

// holds: is it a point other than infinity? (0, 0) isn't, for the constant isn't 0.
func (g group) holds(p Point) bool {
	x, y := mont.Of(p.X), mont.Of(p.Y)
	if !x.Less(prime) || !y.Less(prime) {
		return false
	}
	right := g.Add(g.Mul(x, g.Sub(g.Mul(x, x), mont.Num{3})), constant)
	return g.Mul(y, y) == right
}

// spot is infinity for what isn't a point, too; point: back.
func (g group) spot(p Point) spot {
	if !g.holds(p) {
		return infinity
	}
	return spot{x: mont.Of(p.X), y: mont.Of(p.Y), z: mont.Num{1}}
}

func (g group) point(s spot) Point {
	over, e := g.Inv(s.z)
	if e != api.OK {
		return Point{}
	}
	return Point{X: g.Mul(s.x, over).Bytes(), Y: g.Mul(s.y, over).Bytes()}
}

// sum is the law of Renes, Costello and Batina ("Complete addition formulas for prime order elliptic curves", 2016),
// for a = -3. It holds for all spots, the same twice, opposites and infinity among them, and so never branches: how
// long it takes must not tell of a secret.
func (g group) sum(p, q spot) spot {
	xx, yy, zz := g.Mul(p.x, q.x), g.Mul(p.y, q.y), g.Mul(p.z, q.z)
	xy := g.crossed(p.x, p.y, q.x, q.y)
	xz := g.crossed(p.x, p.z, q.x, q.z)
	yz := g.crossed(p.y, p.z, q.y, q.z)
	zz3 := g.thrice(zz)
	a := g.thrice(g.Sub(xz, g.Mul(constant, zz)))
	b := g.thrice(g.Sub(g.Sub(g.Mul(constant, xz), zz3), xx))
	c := g.Sub(g.thrice(xx), zz3)
	more, less := g.Add(yy, a), g.Sub(yy, a)
	return spot{
		x: g.Sub(g.Mul(xy, more), g.Mul(yz, b)),
		y: g.Add(g.Mul(more, less), g.Mul(b, c)),
		z: g.Add(g.Mul(yz, less), g.Mul(xy, c)),
	}
}

// crossed: each of the first two times the other of the second two.
func (g group) crossed(a, b, c, d mont.Num) mont.Num { return g.Add(g.Mul(a, d), g.Mul(b, c)) }

func (g group) thrice(a mont.Num) mont.Num { return g.Add(g.Add(a, a), a) }

// times adds for a bit of n that is 0, too, and drops what it made: how long it takes must not tell of n.
func (g group) times(n mont.Num, p spot) spot {
	sum := infinity
	for i := 255; i >= 0; i-- {
		sum = g.sum(sum, sum)
		sum = choose(n.Bit(i), g.sum(sum, p), sum)
	}
	return sum
}

// choose is p where which is 1, q where it is 0, without a branch.
func choose(which int, p, q spot) spot {
	mask := -uint64(which)
	for i := range 4 {
		q.x[i] ^= mask & (p.x[i] ^ q.x[i])
		q.y[i] ^= mask & (p.y[i] ^ q.y[i])
		q.z[i] ^= mask & (p.z[i] ^ q.z[i])
	}
	return q
}
