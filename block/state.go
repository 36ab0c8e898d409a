package block

import "math/bits"

// state is a block on its way, as four rows: row r has the bytes r, r+4, r+8 and r+12, the first of them the highest.
// By rows, a shift is a turn of a word, and columns are mixed four at once.
type state [4]uint32

func stateOf(b [16]byte) state {
	var s state
	for i, x := range b {
		s[i%4] = s[i%4]<<8 | uint32(x)
	}
	return s
}

func (s state) bytes() [16]byte {
	var b [16]byte
	for i := range b {
		b[i] = byte(s[i%4] >> (24 - i/4*8))
	}
	return b
}

func (s state) plus(t state) state {
	for i, row := range t {
		s[i] ^= row
	}
	return s
}

// each does to all bytes what turn does to eight.
func (s state) each(turn func(uint64) uint64) state {
	a := turn(uint64(s[0])<<32 | uint64(s[1]))
	b := turn(uint64(s[2])<<32 | uint64(s[3]))
	return state{uint32(a >> 32), uint32(a), uint32(b >> 32), uint32(b)}
}

func (s state) shifted() state {
	for i, row := range s {
		s[i] = bits.RotateLeft32(row, 8*i)
	}
	return s
}

// unshifted: four shifts bring a row back, so three undo one.
func (s state) unshifted() state { return s.shifted().shifted().shifted() }

// mixed: each row becomes twice itself, three times the next, and the other two.
func (s state) mixed() state {
	var t state
	for i, row := range s {
		next := s[(i+1)%4]
		t[i] = uint32(doubled(uint64(row^next))) ^ next ^ s[(i+2)%4] ^ s[(i+3)%4]
	}
	return t
}

// unmixed: four mixings bring a column back, so three undo one.
func (s state) unmixed() state { return s.mixed().mixed().mixed() }
