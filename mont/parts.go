package mont

import "math/bits"

// parts are a number's, the lowest first. All is worked out with them, not with a Num: what is no list stays in
// registers, and goes some three times faster.
type parts struct {
	a, b, c, d uint64
}

func (x parts) num() Num { return Num{x.a, x.b, x.c, x.d} }

func (x parts) less(y parts) bool {
	_, borrow := x.minus(y)
	return borrow == 1
}

func (x parts) plus(y parts) (sum parts, carry uint64) {
	sum.a, carry = bits.Add64(x.a, y.a, 0)
	sum.b, carry = bits.Add64(x.b, y.b, carry)
	sum.c, carry = bits.Add64(x.c, y.c, carry)
	sum.d, carry = bits.Add64(x.d, y.d, carry)
	return sum, carry
}

func (x parts) minus(y parts) (difference parts, borrow uint64) {
	difference.a, borrow = bits.Sub64(x.a, y.a, 0)
	difference.b, borrow = bits.Sub64(x.b, y.b, borrow)
	difference.c, borrow = bits.Sub64(x.c, y.c, borrow)
	difference.d, borrow = bits.Sub64(x.d, y.d, borrow)
	return difference, borrow
}

// half drops the lowest bit; high is the bit above the highest.
func (x parts) half(high uint64) parts {
	return parts{x.a>>1 | x.b<<63, x.b>>1 | x.c<<63, x.c>>1 | x.d<<63, x.d>>1 | high<<63}
}

// choose is x where which is 1, y where it is 0. It doesn't branch: how long it takes must not tell which.
func choose(which uint64, x, y parts) parts {
	mask := -which
	return parts{
		y.a ^ mask&(x.a^y.a), y.b ^ mask&(x.b^y.b), y.c ^ mask&(x.c^y.c), y.d ^ mask&(x.d^y.d),
	}
}

// plusProduct is a and b and x times y, which all together never goes beyond 128 bits.
func plusProduct(a, b, x, y uint64) (low, high uint64) {
	high, low = bits.Mul64(x, y)
	low, carry := bits.Add64(low, a, 0)
	high, _ = bits.Add64(high, 0, carry)
	low, carry = bits.Add64(low, b, 0)
	high, _ = bits.Add64(high, 0, carry)
	return low, high
}

// inverseOf is what times x, an odd number, is 1, modulo 2^64: each step doubles the lowest bits that are right, and
// of x itself three are.
func inverseOf(x uint64) uint64 {
	y := x
	for range 5 {
		y *= 2 - x*y
	}
	return y
}
