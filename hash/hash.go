// Package hash is layer 1: sums of bytes that go on: see shared/doc/01-hash.md.
package hash

// State is a sum that goes on. One that was never put anything stands for no bytes.
type State struct {
	words [8]uint32 // what the whole blocks so far have made
	rest  [blockSize]byte
	size  uint64 // of all bytes so far; those beyond whole blocks are in rest
}

// New: of nothing yet.
func New() *State { return &State{} }

// Put: bytes more; Sum: of all so far; Size: how many they are; Copy: another one that goes on from here.
func (s *State) Put(parts ...[]byte) {
	if s == nil {
		return
	}
	if s.size == 0 {
		s.words = first
	}
	for _, part := range parts {
		s.put(part)
	}
}

func (s *State) Sum() [32]byte {
	if s == nil {
		return [32]byte{}
	}
	// The end goes to a copy, so that the state itself can go on.
	ended := *s
	ended.Put(ending(s.size))
	return bytesOf(ended.words)
}

func (s *State) Size() int {
	if s == nil {
		return 0
	}
	return int(s.size)
}

func (s *State) Copy() *State {
	if s == nil {
		return nil
	}
	other := *s
	return &other
}

// Of: the sum of parts, one behind the other.
func Of(parts ...[]byte) [32]byte {
	s := New()
	s.Put(parts...)
	return s.Sum()
}

// put takes one part: it fills what is left of a block, then takes whole blocks, then keeps the rest.
func (s *State) put(b []byte) {
	held := int(s.size % blockSize)
	s.size += uint64(len(b))
	if held > 0 {
		n := copy(s.rest[held:], b)
		if held+n < blockSize {
			return
		}
		turn(&s.words, s.rest[:])
		b = b[n:]
	}
	for len(b) >= blockSize {
		turn(&s.words, b[:blockSize])
		b = b[blockSize:]
	}
	copy(s.rest[:], b)
}

// ending is what stands behind size bytes to make whole blocks: a one bit, noughts, the count of bits.
func ending(size uint64) []byte {
	noughts := (2*blockSize - 9 - size%blockSize) % blockSize
	end := make([]byte, 1+noughts, 1+noughts+8)
	end[0] = 0x80
	count := size * 8
	for shift := 56; shift >= 0; shift -= 8 {
		end = append(end, byte(count>>shift))
	}
	return end
}

func bytesOf(words [8]uint32) [32]byte {
	var b [32]byte
	for i, w := range words {
		b[4*i], b[4*i+1], b[4*i+2], b[4*i+3] = byte(w>>24), byte(w>>16), byte(w>>8), byte(w)
	}
	return b
}
