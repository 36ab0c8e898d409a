package radius

import "bytes"

// authAt, attrsAt: where a packet's parts begin, behind the Code, the Id and the count.
const (
	authAt   = 4
	attrsAt  = authAt + 16
	headSize = attrsAt

	attrHeadSize = 2
)

// whole is the bytes of a packet in form.
func whole(p *Packet) []byte {
	b := append([]byte{byte(p.Code), byte(p.Id), 0, 0}, p.Auth[:]...)
	for _, a := range p.Attrs {
		b = append(b, byte(a.Kind), byte(attrHeadSize+len(a.Value)))
		b = append(b, a.Value...)
	}
	b[2], b[3] = byte(len(b)>>8), byte(len(b))
	return b
}

// said is the packet that bytes with a head are those of, if there is one.
func said(b []byte) Packet {
	return Packet{Code: int(b[0]), Id: int(b[1]), Auth: [16]byte(b[authAt:attrsAt]), Attrs: saidAttrs(b[attrsAt:])}
}

// saidAttrs are the attributes up to the first that is none.
func saidAttrs(b []byte) []Attr {
	var list []Attr
	for len(b) >= attrHeadSize {
		kind, count := int(b[0]), int(b[1])
		if count < attrHeadSize || count > len(b) {
			return list
		}
		list = append(list, Attr{Kind: kind, Value: bytes.Clone(b[attrHeadSize:count])})
		b = b[count:]
	}
	return list
}
