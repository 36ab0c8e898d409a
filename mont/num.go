package mont

// Num is a number: four parts of 64 bits, the lowest first.
type Num [4]uint64

// Of: a number of 32 bytes, the highest first; Bytes: back.
func Of(b [32]byte) Num {
	var n Num
	for i, x := range b {
		n[3-i/8] = n[3-i/8]<<8 | uint64(x)
	}
	return n
}

func (n Num) Bytes() [32]byte {
	var b [32]byte
	for i := range b {
		b[i] = byte(n[3-i/8] >> (56 - i%8*8))
	}
	return b
}

// Less: is it less than another? Bit: its i-th bit.
func (n Num) Less(m Num) bool { return n.parts().less(m.parts()) }

func (n Num) Bit(i int) int {
	if i < 0 || i > 255 {
		return 0
	}
	return int(n[i/64] >> (i % 64) & 1)
}

func (n Num) parts() parts { return parts{n[0], n[1], n[2], n[3]} }
