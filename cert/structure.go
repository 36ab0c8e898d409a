package cert

import (
	"bytes"

	"tollgate/der"
)

// The objects' names, as X.509 has them.
const (
	ecdsaBySHA256 = "\x2A\x86\x48\xCE\x3D\x04\x03\x02"
	ecKey         = "\x2A\x86\x48\xCE\x3D\x02\x01"
	p256          = "\x2A\x86\x48\xCE\x3D\x03\x01\x07"
	commonName    = "\x55\x04\x03"
	constraints   = "\x55\x1D\x13"
	keyUses       = "\x55\x1D\x0F"
	moreUses      = "\x55\x1D\x25"
)

// version is what X.509 has for its third one.
const version = 2

// ownUses parts the uses: keyUses has those below it, moreUses how often it goes into them.
const ownUses = 4

// whole is a certificate: what is signed, by which way, and the signature.
func whole(c Cert, sig [64]byte) der.Node {
	return of(content(c), of(oid(ecdsaBySHA256)), bits(WriteSig(sig)))
}

// content is what is signed.
func content(c Cert) der.Node {
	return of(
		der.Of(der.Part0, der.Num(version)),
		der.Num(c.Serial),
		of(oid(ecdsaBySHA256)),
		name(c.Issuer),
		of(der.Num(c.From), der.Num(c.To)),
		name(c.Subject),
		of(of(oid(ecKey), oid(p256)), bits(c.Key)),
		der.Of(der.Part3, of(
			of(oid(constraints), yes(), inner(issuing(c))),
			of(oid(keyUses), yes(), inner(der.Num(c.Uses%ownUses))),
			of(oid(moreUses), inner(der.Num(c.Uses/ownUses))),
		)),
	)
}

func issuing(c Cert) der.Node {
	if !c.CA {
		return of()
	}
	return of(yes(), der.Num(c.Path))
}

// said is what content was made of. What can't be read stands as nought.
func said(n der.Node) Cert {
	more := within(n, 7, 0)
	issuing := outer(within(more, 0, 2))
	return Cert{
		Serial:  num(within(n, 1)),
		Issuer:  word(within(n, 3, 0, 1)),
		Subject: word(within(n, 5, 0, 1)),
		From:    num(within(n, 4, 0)),
		To:      num(within(n, 4, 1)),
		Key:     bitsOf(within(n, 6, 1)),
		CA:      len(issuing.Kids) > 0,
		Path:    num(within(issuing, 1)),
		Uses:    num(outer(within(more, 1, 2))) + ownUses*num(outer(within(more, 2, 1))),
	}
}

func of(kids ...der.Node) der.Node { return der.Of(der.Seq, kids...) }

func oid(s string) der.Node { return der.Node{Tag: der.Oid, Body: []byte(s)} }

func yes() der.Node { return der.Node{Tag: der.Bool, Body: []byte{0xFF}} }

func name(s string) der.Node { return of(of(oid(commonName), der.Word(s))) }

// bits are whole bytes: of the last one none is left out.
func bits(b []byte) der.Node {
	return der.Node{Tag: der.Bits, Body: append([]byte{0}, b...)}
}

func bitsOf(n der.Node) []byte { return bytes.TrimPrefix(n.Body, []byte{0}) }

// inner is a structure as bytes within another, and outer such a one back.
func inner(n der.Node) der.Node { return der.Node{Tag: der.Bytes, Body: written(n)} }

func outer(n der.Node) der.Node {
	m, _ := der.Read(n.Body)
	return m
}

// written is of what is in form and small, which never fails.
func written(n der.Node) []byte {
	b, _ := der.Write(n)
	return b
}

// within is the node to which a path of places leads; one without a tag, if there is none.
func within(n der.Node, path ...int) der.Node {
	for _, i := range path {
		if i >= len(n.Kids) {
			return der.Node{}
		}
		n = n.Kids[i]
	}
	return n
}

func num(n der.Node) int {
	x, _ := der.ToNum(n)
	return x
}

func word(n der.Node) string {
	s, _ := der.ToWord(n)
	return s
}
