package cert_test

import (
	"bytes"
	"crypto/sha256"
	"encoding/asn1"
	"encoding/hex"
	"math/big"
	"slices"
	"strings"
	"testing"

	"tollgate/api"
	"tollgate/cert"
	"tollgate/curve"
	"tollgate/sample"
	"tollgate/sign"
)

// parts are those of a certificate that may be written otherwise than they should be, as bytes.
type parts struct {
	version, serial, way, issuer, times, subject, keyWay, key []byte
	constraints, uses, moreUses                               []byte
}

// put is a structure's bytes, by Go's library: its tag, the count, and what it holds.
func put(tag int, held ...[]byte) []byte {
	b, err := asn1.Marshal(asn1.RawValue{Class: tag >> 6, IsCompound: tag&0x20 != 0, Tag: tag & 0x1F, Bytes: slices.Concat(held...)})
	if err != nil {
		panic(err)
	}
	return b
}

func num(n int) []byte { return bigNum(big.NewInt(int64(n))) }

func bigNum(n *big.Int) []byte {
	b, err := asn1.Marshal(n)
	if err != nil {
		panic(err)
	}
	return b
}

func oid(digits string) []byte { return put(6, hexOf(digits)) }

func name(s string) []byte { return put(0x30, put(0x30, oid("55 04 03"), put(0x0C, []byte(s)))) }

func yes() []byte { return []byte{1, 1, 0xFF} }

// way is that of signing, keyWay what the key is for.
func way() []byte { return put(0x30, oid("2A 86 48 CE 3D 04 03 02")) }

func keyWay() []byte {
	return put(0x30, oid("2A 86 48 CE 3D 02 01"), oid("2A 86 48 CE 3D 03 01 07"))
}

func constraints(inner ...[]byte) []byte {
	return put(0x30, oid("55 1D 13"), yes(), put(4, inner...))
}

func uses(inner ...[]byte) []byte { return put(0x30, oid("55 1D 0F"), yes(), put(4, inner...)) }

func moreUses(inner ...[]byte) []byte { return put(0x30, oid("55 1D 25"), put(4, inner...)) }

// partsOf is what is signed of c, from the document's words alone, in form or not.
func partsOf(c cert.Cert) parts {
	p := parts{
		version: put(0xA0, num(2)), serial: num(c.Serial), way: way(), issuer: name(c.Issuer),
		times: put(0x30, num(c.From), num(c.To)), subject: name(c.Subject), keyWay: keyWay(), key: put(3, []byte{0}, c.Key),
		constraints: constraints(put(0x30)), uses: uses(num(c.Uses % 4)), moreUses: moreUses(num(c.Uses / 4)),
	}
	if c.CA {
		p.constraints = constraints(put(0x30, yes(), num(c.Path)))
	}
	return p
}

func (p parts) content() []byte {
	return put(0x30, p.version, p.serial, p.way, p.issuer, p.times, p.subject, put(0x30, p.keyWay, p.key),
		put(0xA3, put(0x30, p.constraints, p.uses, p.moreUses)))
}

// whole is the certificate with the signature's bytes.
func (p parts) whole(sig []byte) []byte { return put(0x30, p.content(), way(), put(3, []byte{0}, sig)) }

// signedBy is the certificate, signed by a secret.
func (p parts) signedBy(t *testing.T, secret [32]byte) []byte {
	t.Helper()
	sig, e := sign.Make(secret, sha256.Sum256(p.content()))
	if e != api.OK {
		t.Fatalf("error %d", e)
	}
	return p.whole(sigBytes(sig))
}

func sigBytes(sig [64]byte) []byte {
	return put(0x30, bigNum(new(big.Int).SetBytes(sig[:32])), bigNum(new(big.Int).SetBytes(sig[32:])))
}

func hexOf(digits string) []byte {
	b, err := hex.DecodeString(strings.ReplaceAll(digits, " ", ""))
	if err != nil {
		panic(err)
	}
	return b
}

// secrets are good ones; wrongSecrets nought, the order, and above it.
func secrets() [][32]byte {
	return [][32]byte{{31: 7}, {31: 8}, {0: 1}, [32]byte(sample.Filled(32, 1)), [32]byte(sample.Filled(32, 5))}
}

func wrongSecrets() [][32]byte {
	above := curve.Order()
	above[31]++
	return [][32]byte{{}, curve.Order(), above, [32]byte(bytes.Repeat([]byte{0xFF}, 32))}
}

func publicOf(secret [32]byte) []byte {
	b, e := curve.Public(secret)
	if e != api.OK {
		panic("no secret")
	}
	return b
}

// leaf and root are two certificates, as there are many.
func leaf() cert.Cert {
	return cert.Cert{Serial: 3, Issuer: "root", Subject: "me", From: 1, To: 9, Key: publicOf(secrets()[0]), Uses: cert.Sign | cert.Client}
}

func root() cert.Cert {
	return cert.Cert{Serial: 200, Issuer: "root", Subject: "root", From: 1000, To: 70000, Key: publicOf(secrets()[1]), CA: true, Path: 5,
		Uses: cert.Issue}
}

// with is a leaf of which something is changed.
func with(change func(c *cert.Cert)) cert.Cert {
	c := leaf()
	change(&c)
	return c
}

// isOutOfForm: it is neither read nor asked who signed it, by right public bytes or wrong ones.
func isOutOfForm(t *testing.T, b []byte, what string) {
	t.Helper()
	if c, e := cert.Read(b); e != api.ErrForm || !isNone(c) {
		t.Errorf("%s: %.999x is read as %v, error %d", what, b, c, e)
	}
	for _, public := range [][]byte{publicOf(secrets()[0]), nil} {
		if e := cert.Signed(b, public); e != api.ErrForm {
			t.Errorf("%s: %.999x is signed: error %d", what, b, e)
		}
	}
}

func isNone(c cert.Cert) bool { return len(c.Key) == 0 && same(c, cert.Cert{Key: c.Key}) }

func same(a, b cert.Cert) bool {
	return a.Serial == b.Serial && a.Issuer == b.Issuer && a.Subject == b.Subject && a.From == b.From && a.To == b.To &&
		bytes.Equal(a.Key, b.Key) && a.CA == b.CA && a.Path == b.Path && a.Uses == b.Uses
}

func isRead(t *testing.T, b []byte, want cert.Cert, what string) {
	t.Helper()
	if c, e := cert.Read(b); e != api.OK || !same(c, want) {
		t.Errorf("%s: %x is read as %v, not %v: error %d", what, b, c, want, e)
	}
}

func isSigned(t *testing.T, want api.Errno, b, public []byte, what string) {
	t.Helper()
	if e := cert.Signed(b, public); e != want {
		t.Errorf("%s: %x by %x: error %d, not %d", what, b, public, e, want)
	}
}

func made(t *testing.T, c cert.Cert, secret [32]byte) []byte {
	t.Helper()
	b, e := cert.Make(c, secret)
	if e != api.OK {
		t.Fatalf("%v isn't made: error %d", c, e)
	}
	return b
}
