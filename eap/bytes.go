package eap

// headSize is that of the Code, the Id and the count.
const (
	headSize = 4
	typeSize = 1
)

// whole is the bytes of a packet in form.
func whole(p *Packet) []byte {
	behind := body(p)
	count := headSize + len(behind)
	return append([]byte{byte(p.Code), byte(p.Id), byte(count >> 8), byte(count)}, behind...)
}

// body is what stands behind the head: in form just what says nothing has no type.
func body(p *Packet) []byte {
	if p.Type == 0 {
		return nil
	}
	return append([]byte{byte(p.Type)}, p.Data...)
}

// countOf is what bytes that have a head say of their count.
func countOf(b []byte) int { return int(b[2])<<8 | int(b[3]) }

// said is the packet that bytes with a head are those of, if there is one; its Data is a piece of b.
func said(b []byte) Packet {
	p := Packet{Code: int(b[0]), Id: int(b[1])}
	if behind := b[headSize:]; len(behind) > 0 {
		p.Type, p.Data = int(behind[0]), behind[typeSize:]
	}
	return p
}
