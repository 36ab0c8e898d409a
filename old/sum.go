package old

import "math/bits"

// blockSize is how many bytes are turned at once.
const blockSize = 64

// sines has a word for each step: the whole part of 2^32 times the sine of 1, 2, .. (radians), without its sign.
var sines = [64]uint32{
	0xd76aa478, 0xe8c7b756, 0x242070db, 0xc1bdceee, 0xf57c0faf, 0x4787c62a, 0xa8304613, 0xfd469501,
	0x698098d8, 0x8b44f7af, 0xffff5bb1, 0x895cd7be, 0x6b901122, 0xfd987193, 0xa679438e, 0x49b40821,
	0xf61e2562, 0xc040b340, 0x265e5a51, 0xe9b6c7aa, 0xd62f105d, 0x02441453, 0xd8a1e681, 0xe7d3fbc8,
	0x21e1cde6, 0xc33707d6, 0xf4d50d87, 0x455a14ed, 0xa9e3e905, 0xfcefa3f8, 0x676f02d9, 0x8d2a4c8a,
	0xfffa3942, 0x8771f681, 0x6d9d6122, 0xfde5380c, 0xa4beea44, 0x4bdecfa9, 0xf6bb4b60, 0xbebfbc70,
	0x289b7ec6, 0xeaa127fa, 0xd4ef3085, 0x04881d05, 0xd9d4d039, 0xe6db99e5, 0x1fa27cf8, 0xc4ac5665,
	0xf4292244, 0x432aff97, 0xab9423a7, 0xfc93a039, 0x655b59c3, 0x8f0ccc92, 0xffeff47d, 0x85845dd1,
	0x6fa87e4f, 0xfe2ce6e0, 0xa3014314, 0x4e0811a1, 0xf7537e82, 0xbd3af235, 0x2ad7d2bb, 0xeb86d391,
}

// shifts has for each of the four rounds how far its steps turn, four in turn.
var shifts = [16]int{7, 12, 17, 22, 5, 9, 14, 20, 4, 11, 16, 23, 6, 10, 15, 21}

// sum is a sum that goes on.
type sum struct {
	words [4]uint32 // what the whole blocks so far have made
	rest  [blockSize]byte
	size  uint64 // of all bytes so far; those beyond whole blocks are in rest
}

func begun() *sum {
	return &sum{words: [4]uint32{0x67452301, 0xefcdab89, 0x98badcfe, 0x10325476}}
}

// put takes one part: it fills what is left of a block, then takes whole blocks, then keeps the rest.
func (s *sum) put(b []byte) {
	held := int(s.size % blockSize)
	s.size += uint64(len(b))
	if held > 0 {
		n := copy(s.rest[held:], b)
		if held+n < blockSize {
			return
		}
		s.turn(s.rest[:])
		b = b[n:]
	}
	for len(b) >= blockSize {
		s.turn(b[:blockSize])
		b = b[blockSize:]
	}
	copy(s.rest[:], b)
}

// end puts what makes whole blocks: a one bit, noughts, the count of bits, the lowest byte first.
func (s *sum) end() [16]byte {
	count := s.size * 8
	noughts := (2*blockSize - 9 - s.size%blockSize) % blockSize
	ending := make([]byte, 1+noughts, 1+noughts+8)
	ending[0] = 0x80
	for shift := 0; shift < 64; shift += 8 {
		ending = append(ending, byte(count>>shift))
	}
	s.put(ending)
	var b [16]byte
	for i, w := range s.words {
		b[4*i], b[4*i+1], b[4*i+2], b[4*i+3] = byte(w), byte(w>>8), byte(w>>16), byte(w>>24)
	}
	return b
}

// turn takes one block into the words.
func (s *sum) turn(block []byte) {
	var x [16]uint32
	for i := range x {
		p := block[4*i : 4*i+4]
		x[i] = uint32(p[0]) | uint32(p[1])<<8 | uint32(p[2])<<16 | uint32(p[3])<<24
	}
	a, b, c, d := s.words[0], s.words[1], s.words[2], s.words[3]
	for i := range 64 {
		mixed, at := step(i, b, c, d)
		turned := bits.RotateLeft32(a+mixed+sines[i]+x[at], shifts[i/16*4+i%4])
		a, d, c, b = d, c, b, b+turned
	}
	s.words[0] += a
	s.words[1] += b
	s.words[2] += c
	s.words[3] += d
}

// step tells for the i-th step how three words are mixed, and which word of the block it takes.
func step(i int, b, c, d uint32) (mixed uint32, at int) {
	switch i / 16 {
	case 0:
		return b&c | ^b&d, i
	case 1:
		return b&d | c&^d, (5*i + 1) % 16
	case 2:
		return b ^ c ^ d, (3*i + 5) % 16
	}
	return c ^ (b | ^d), 7 * i % 16
}
