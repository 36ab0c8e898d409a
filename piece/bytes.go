package piece

import "tollgate/api"

// Flags: counted (L), more (M), begin (S), and none of them.
const (
	counted = 0x80
	more    = 0x40
	begin   = 0x20
	last    = 0x00
)

const (
	flagsSize = 1
	countSize = 4
)

// first is the piece that more follow, and that says how many bytes they all hold.
func first(count int, held []byte) []byte {
	return append([]byte{counted | more, byte(count >> 24), byte(count >> 16), byte(count >> 8), byte(count)}, held...)
}

func later(flags byte, held []byte) []byte { return append([]byte{flags}, held...) }

// parts are what a piece's bytes say. Its count is that of the whole flight; what it holds is a piece of its bytes.
type parts struct {
	flags byte
	count int
	held  []byte
}

func (p *parts) has(flag byte) bool { return p.flags&flag != 0 }

func partsOf(b []byte) (parts, api.Errno) {
	if len(b) < flagsSize {
		return parts{}, api.ErrTail
	}
	p := parts{flags: b[0], held: b[flagsSize:]}
	if !p.has(counted) {
		p.count = len(p.held)
		return p, api.OK
	}
	if len(p.held) < countSize {
		return parts{}, api.ErrTail
	}
	for _, digit := range p.held[:countSize] {
		p.count = p.count<<8 | int(digit)
	}
	p.held = p.held[countSize:]
	return p, api.OK
}
