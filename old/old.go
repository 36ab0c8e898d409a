// Package old is layer 2: the sums that servers of access still ask for: see shared/doc/02-old.md.
package old

// Of: a sum of parts, one behind the other; Mac: by a key.
func Of(parts ...[]byte) [16]byte {
	s := begun()
	for _, part := range parts {
		s.put(part)
	}
	return s.end()
}

func Mac(key []byte, parts ...[]byte) [16]byte {
	inner, outer := pads(key)
	s := begun()
	s.put(inner[:])
	for _, part := range parts {
		s.put(part)
	}
	sum := s.end()
	return Of(outer[:], sum[:])
}

// Hide: bytes put together with what sums by a secret make of a beginning; Show: back.
func Hide(secret, begin, b []byte) []byte {
	hidden := make([]byte, (len(b)+15)/16*16)
	copy(hidden, b)
	ahead := begin
	for at := 0; at < len(hidden); at += 16 {
		mask := Of(secret, ahead)
		for i, m := range mask {
			hidden[at+i] ^= m
		}
		ahead = hidden[at : at+16]
	}
	return hidden
}

func Show(secret, begin, b []byte) []byte {
	if len(b)%16 != 0 {
		return nil
	}
	shown := make([]byte, len(b))
	ahead := begin
	for at := 0; at < len(b); at += 16 {
		mask := Of(secret, ahead)
		for i, m := range mask {
			shown[at+i] = b[at+i] ^ m
		}
		ahead = b[at : at+16]
	}
	return shown
}

// pads makes of a key the two blocks that begin HMAC's two sums; a key beyond a block counts as its sum.
func pads(key []byte) (inner, outer [blockSize]byte) {
	var block [blockSize]byte
	if len(key) > blockSize {
		sum := Of(key)
		copy(block[:], sum[:])
	} else {
		copy(block[:], key)
	}
	for i, k := range block {
		inner[i], outer[i] = k^0x36, k^0x5c
	}
	return inner, outer
}
