package radius

import (
	"slices"

	"tollgate/api"
	"tollgate/mac"
	"tollgate/old"
)

const markSize = 16

func isMark(a Attr) bool { return a.Kind == Mark }

// unset is a Mark as it stands in the bytes that it is made of.
func unset() Attr { return Attr{Kind: Mark, Value: make([]byte, markSize)} }

// marked is the bytes of p with a Mark by a secret behind its attributes.
func marked(p Packet, secret []byte) ([]byte, api.Errno) {
	if slices.ContainsFunc(p.Attrs, isMark) {
		return nil, api.ErrArg
	}
	p.Attrs = slices.Concat(p.Attrs, []Attr{unset()})
	b, e := Write(p)
	if e != api.OK {
		return nil, e
	}
	mark := old.Mac(secret, b)
	copy(b[len(b)-markSize:], mark[:])
	return b, api.OK
}

// unmarked is p, which was read, without its Mark, if it has just one, and that is right.
func unmarked(p Packet, secret []byte) (Packet, api.Errno) {
	at := slices.IndexFunc(p.Attrs, isMark)
	if at < 0 {
		return Packet{}, api.ErrMac
	}
	mark, others := p.Attrs[at].Value, slices.Concat(p.Attrs[:at], p.Attrs[at+1:])
	if len(mark) != markSize || slices.ContainsFunc(others, isMark) {
		return Packet{}, api.ErrMac
	}
	p.Attrs[at] = unset()
	right := old.Mac(secret, whole(&p))
	if !mac.Same(mark, right[:]) {
		return Packet{}, api.ErrMac
	}
	p.Attrs = others
	return p, api.OK
}
