package gcm

// element is a polynomial: the coefficients of x^0 .. x^63 are high's bits, from the highest on, those of x^64 .. low's.
type element struct {
	high, low uint64
}

// over is what x^128 is, modulo the polynomial: 1 + x + x^2 + x^7.
const over = 0xe1 << 56

func elementOf(b [16]byte) element {
	var a element
	for i := range 8 {
		a.high = a.high<<8 | uint64(b[i])
		a.low = a.low<<8 | uint64(b[8+i])
	}
	return a
}

func (a element) bytes() [16]byte {
	var b [16]byte
	for i := range 8 {
		b[i] = byte(a.high >> (56 - 8*i))
		b[8+i] = byte(a.low >> (56 - 8*i))
	}
	return b
}

func (a element) plus(b element) element { return element{a.high ^ b.high, a.low ^ b.low} }

// times adds b times x^i for each x^i in a. It asks no bit, but masks by it, for what it does must not tell of secrets.
func (a element) times(b element) element {
	var sum element
	for range 128 {
		chosen := -(a.high >> 63)
		sum = sum.plus(element{b.high & chosen, b.low & chosen})
		a = element{a.high<<1 | a.low>>63, a.low << 1}
		b = b.timesX()
	}
	return sum
}

func (a element) timesX() element {
	return element{a.high>>1 ^ -(a.low&1)&over, a.low>>1 | a.high<<63}
}
