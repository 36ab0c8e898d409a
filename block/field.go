package block

// Here a byte is an element of the field of 256 elements, and eight of them lie in a word. All is worked out, without
// a table: where a table is asked for a secret byte, the time that it takes tells of the byte.

// ones is the element 1, eight times.
const ones = 0x0101010101010101

// doubled: times x, modulo x^8 + x^4 + x^3 + x + 1.
func doubled(a uint64) uint64 {
	return a&(0x7f*ones)<<1 ^ a>>7&ones*0x1b
}

func times(a, b uint64) uint64 {
	var sum uint64
	for range 8 {
		sum ^= b & ones * 0xff & a
		a = doubled(a)
		b >>= 1
	}
	return sum
}

// squared: a sum's square is the sum of its squares, so each bit goes its own way: x^i to x^2i.
func squared(a uint64) uint64 {
	low := a&ones | a>>1&ones<<2 | a>>2&ones<<4 | a>>3&ones<<6
	return low ^ a>>4&ones*0x1b ^ a>>5&ones*0x6c ^ a>>6&ones*0xab ^ a>>7&ones*0x9a
}

// inverse: to the power of 254, which makes of nought nought, as it must.
func inverse(a uint64) uint64 {
	a2 := squared(a)
	a3 := times(a2, a)
	a12 := squared(squared(a3))
	a15 := times(a12, a3)
	a240 := squared(squared(squared(squared(a15))))
	return times(a240, times(a12, a2))
}

// turned turns each byte by itself.
func turned(a uint64, by int) uint64 {
	stay := uint64(0xff) >> by * ones
	return a&stay<<by | a&^stay>>(8-by)
}

// substituted is the standard's S-box, restored its inverse.
func substituted(a uint64) uint64 {
	a = inverse(a)
	return a ^ turned(a, 1) ^ turned(a, 2) ^ turned(a, 3) ^ turned(a, 4) ^ 0x63*ones
}

func restored(a uint64) uint64 {
	return inverse(turned(a, 1) ^ turned(a, 3) ^ turned(a, 6) ^ 0x05*ones)
}
