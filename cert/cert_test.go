package cert_test

import (
	"bytes"
	"crypto/ecdsa"
	"crypto/elliptic"
	"crypto/sha256"
	"fmt"
	"math"
	"strings"
	"testing"

	"tollgate/api"
	"tollgate/cert"
	"tollgate/der"
)

// certs are in form: at the edges of each part, and each use.
func certs() []cert.Cert {
	list := []cert.Cert{leaf(), root()}
	add := func(change func(c *cert.Cert)) { list = append(list, with(change)) }
	for _, n := range []int{1, 127, 128, 255, 256, 1 << 31, 1 << 61, 1<<62 - 1} {
		add(func(c *cert.Cert) { c.Serial = n })
	}
	for _, n := range []int{0, 1, 127, 128, 1 << 32, 1<<62 - 1} {
		add(func(c *cert.Cert) { c.From = n })
		add(func(c *cert.Cert) { c.To = n })
	}
	all := ""
	for c := byte(' '); c <= '~'; c++ {
		all += string(c)
	}
	for _, s := range []string{"a", " ", "~", all[:63], all[:64], all[len(all)-64:], strings.Repeat("x", 64)} {
		add(func(c *cert.Cert) { c.Issuer = s })
		add(func(c *cert.Cert) { c.Subject = s })
	}
	for _, secret := range secrets() {
		add(func(c *cert.Cert) { c.Key = publicOf(secret) })
	}
	for uses := range 16 {
		add(func(c *cert.Cert) { c.Uses, c.CA = uses, uses&cert.Issue != 0 })
	}
	for path := range 6 {
		add(func(c *cert.Cert) { c.CA, c.Path, c.Uses = true, path, cert.Issue|cert.Server })
	}
	return append(list, greatest(), cert.Cert{Serial: 1, Issuer: "a", Subject: "a", Key: leaf().Key})
}

// greatest has the most bytes.
func greatest() cert.Cert {
	name := strings.Repeat("~", 64)
	return cert.Cert{Serial: 1<<62 - 1, Issuer: name, Subject: name, From: 1<<62 - 1, To: 1<<62 - 1, Key: publicOf(secrets()[2]), CA: true,
		Path: 5, Uses: 15}
}

func wrongKeys() [][]byte {
	key := publicOf(secrets()[0])
	changed := func(i int, by byte) []byte {
		b := bytes.Clone(key)
		b[i] ^= by
		return b
	}
	infinity := make([]byte, 65)
	infinity[0] = 4
	high := bytes.Repeat([]byte{0xFF}, 65)
	high[0] = 4
	return [][]byte{nil, {}, key[:1], key[:64], append(bytes.Clone(key), 0), changed(0, 1), changed(0, 4), changed(1, 1), changed(64, 1),
		append([]byte{2}, key[1:33]...), make([]byte, 65), infinity, high}
}

// wrongCerts aren't in form; their bytes would say so too.
func wrongCerts() map[string]cert.Cert {
	list := map[string]cert.Cert{"nothing": {}}
	add := func(what string, change func(c *cert.Cert)) { list[what] = with(change) }
	for _, n := range []int{-1, -128, 1 << 62, math.MaxInt, math.MinInt} {
		add(fmt.Sprintf("serial %d", n), func(c *cert.Cert) { c.Serial = n })
		add(fmt.Sprintf("from %d", n), func(c *cert.Cert) { c.From = n })
		add(fmt.Sprintf("to %d", n), func(c *cert.Cert) { c.To = n })
		add(fmt.Sprintf("path %d", n), func(c *cert.Cert) { c.CA, c.Uses, c.Path = true, cert.Issue, n })
	}
	add("serial 0", func(c *cert.Cert) { c.Serial = 0 })
	for _, s := range []string{"", strings.Repeat("x", 65), strings.Repeat("x", 300), "\x1F", "\x7F", "\x00", "\x80", "\xFF", "a\n", "a\x1Fb", "\x7Fb", "é"} {
		add(fmt.Sprintf("issuer %q", s), func(c *cert.Cert) { c.Issuer = s })
		add(fmt.Sprintf("subject %q", s), func(c *cert.Cert) { c.Subject = s })
	}
	for i, key := range wrongKeys() {
		add(fmt.Sprintf("key %d", i), func(c *cert.Cert) { c.Key = key })
	}
	for _, path := range []int{6, 7, 100} {
		add(fmt.Sprintf("path %d", path), func(c *cert.Cert) { c.CA, c.Uses, c.Path = true, cert.Issue, path })
	}
	for _, n := range []int{-1, -2, -4, 16, 17, 32, 1 << 62, math.MaxInt, math.MinInt} {
		add(fmt.Sprintf("uses %d", n), func(c *cert.Cert) { c.Uses = n })
		add(fmt.Sprintf("uses %d of a CA", n), func(c *cert.Cert) { c.Uses, c.CA = n, true })
	}
	for uses := range 16 {
		add(fmt.Sprintf("CA and uses %d at odds", uses), func(c *cert.Cert) { c.Uses, c.CA = uses, uses&cert.Issue == 0 })
	}
	return list
}

// A certificate byte by byte: the key of the secret 7, signed by the secret 8. (The signature is Go's library's.)
func TestKnownCert(t *testing.T) {
	c := cert.Cert{Serial: 200, Issuer: "root", Subject: "me", From: 0, To: 1000, Key: publicOf(secrets()[0]), CA: true, Path: 1, Uses: 11}
	content := hexOf("3081C8 A003 020102 0202 00C8 300A 0608 2A8648CE3D040302 300D 300B 0603 550403 0C04 726F6F74 3007 0201 00 0202 03E8" +
		"300B 3009 0603 550403 0C02 6D65 3059 3013 0607 2A8648CE3D0201 0608 2A8648CE3D030107 0342 00" +
		"04 8E533B6FA0BF7B4625BB30667C01FB607EF9F8B8A80FEF5B300628703187B2A3 73EB1DBDE03318366D069F83A6F5900053C73633CB041B21C55E1A86C1F400B4" +
		"A331 302F 3012 0603 551D13 0101FF 0408 3006 0101FF 020101 300D 0603 551D0F 0101FF 0403 020103 300A 0603 551D25 0403 020102")
	sig := hexOf("3044 0220 3CFBAD5367D0E33AC2E4E18C7BA0ECEDD869DAFD8289DA77AAC2E2B291799813" +
		"0220 569D1D692B6E59383ACA07E8E7CB0221463CEBF999B45AFE2A53DB2F4CB7AE05")
	want := put(0x30, content, hexOf("300A 0608 2A8648CE3D040302 0347 00"), sig)
	if b := made(t, c, secrets()[1]); !bytes.Equal(b, want) {
		t.Errorf("%X, not %X", b, want)
	}
	isRead(t, want, c, "a known certificate")
	isSigned(t, api.OK, want, publicOf(secrets()[1]), "a known certificate")
	isSigned(t, api.ErrSig, want, c.Key, "a known certificate by its own key")
}

func TestMadeByWords(t *testing.T) {
	for i, c := range certs() {
		secret := secrets()[i%len(secrets())]
		b, what := made(t, c, secret), fmt.Sprint(c)
		if want := partsOf(c).signedBy(t, secret); !bytes.Equal(b, want) {
			t.Errorf("%s: %x, not %x", what, b, want)
		}
		isRead(t, b, c, what)
		isSigned(t, api.OK, b, publicOf(secret), what)
		isSigned(t, api.ErrSig, b, publicOf(secrets()[(i+1)%len(secrets())]), what)
	}
}

// Go's library believes the signature, too.
func TestSignedByTheLibrary(t *testing.T) {
	for i, c := range certs()[:8] {
		secret := secrets()[i%len(secrets())]
		key, err := ecdsa.ParseUncompressedPublicKey(elliptic.P256(), publicOf(secret))
		if err != nil {
			t.Fatal(err)
		}
		n, e := der.Read(made(t, c, secret))
		if e != api.OK || len(n.Kids) != 3 {
			t.Fatalf("%v, error %d", n, e)
		}
		content, _ := der.Write(n.Kids[0])
		sum := sha256.Sum256(content)
		if !ecdsa.VerifyASN1(key, sum[:], n.Kids[2].Body[1:]) {
			t.Errorf("%v: the signature doesn't hold", c)
		}
	}
}

func TestAllCertsAreRead(t *testing.T) {
	sig := cert.WriteSig([64]byte{31: 1, 63: 1})
	for _, c := range certs() {
		b := partsOf(c).whole(sig)
		isRead(t, b, c, "whoever signed it")
		isSigned(t, api.ErrSig, b, publicOf(secrets()[0]), "signed by nobody")
	}
}

func TestWrongCerts(t *testing.T) {
	for what, c := range wrongCerts() {
		for _, secret := range append(wrongSecrets(), secrets()[0]) {
			if b, e := cert.Make(c, secret); e != api.ErrForm || len(b) > 0 {
				t.Errorf("%s: made as %x, error %d", what, b, e)
			}
		}
		isOutOfForm(t, partsOf(c).signedBy(t, secrets()[0]), what)
	}
}

// A path is told of a CA alone: there are no bytes that tell another's.
func TestPathWithoutCA(t *testing.T) {
	for _, path := range []int{-1, 1, 5, 6} {
		c := with(func(c *cert.Cert) { c.Path = path })
		if b, e := cert.Make(c, secrets()[0]); e != api.ErrForm || len(b) > 0 {
			t.Errorf("path %d: made as %x, error %d", path, b, e)
		}
		isRead(t, partsOf(c).signedBy(t, secrets()[0]), leaf(), "no path")
	}
}

func TestMakeBySecretsThatAreNone(t *testing.T) {
	for _, c := range certs()[:4] {
		for _, secret := range wrongSecrets() {
			if b, e := cert.Make(c, secret); e != api.ErrArg || len(b) > 0 {
				t.Errorf("by %x: %x, error %d", secret, b, e)
			}
		}
	}
}

func TestSignedByOthers(t *testing.T) {
	for i, secret := range secrets() {
		b := made(t, root(), secret)
		for j, other := range secrets() {
			want := api.ErrSig
			if i == j {
				want = api.OK
			}
			isSigned(t, want, b, publicOf(other), "another's public bytes")
		}
		for _, wrong := range wrongKeys() {
			isSigned(t, api.ErrPoint, b, wrong, "public bytes that are none")
		}
	}
	// Wrong public bytes are told ahead of a wrong signature.
	b := partsOf(leaf()).whole(cert.WriteSig([64]byte{}))
	isSigned(t, api.ErrPoint, b, nil, "nobody's signature, and no public bytes")
	isSigned(t, api.ErrSig, b, publicOf(secrets()[0]), "nobody's signature")
}

// A signature of another certificate isn't one of this.
func TestSignatureOfAnother(t *testing.T) {
	secret := secrets()[0]
	all := certs()
	for i, c := range all {
		other := all[(i+1)%len(all)]
		n, _ := der.Read(made(t, other, secret))
		b := partsOf(c).whole(n.Kids[2].Body[1:])
		isRead(t, b, c, "with another's signature")
		want := api.ErrSig
		if same(c, other) {
			want = api.OK
		}
		isSigned(t, want, b, publicOf(secret), "with another's signature")
	}
}

// Each part is written otherwise than it must be.
func TestOtherParts(t *testing.T) {
	for what, change := range map[string]func(p *parts){
		"version 0":               func(p *parts) { p.version = put(0xA0, num(0)) },
		"version 1":               func(p *parts) { p.version = put(0xA0, num(1)) },
		"version 3":               func(p *parts) { p.version = put(0xA0, num(3)) },
		"version 258":             func(p *parts) { p.version = put(0xA0, num(258)) },
		"no version":              func(p *parts) { p.version = nil },
		"an empty version":        func(p *parts) { p.version = put(0xA0) },
		"two versions":            func(p *parts) { p.version = put(0xA0, num(2), num(2)) },
		"a bare version":          func(p *parts) { p.version = num(2) },
		"another's version":       func(p *parts) { p.version = put(0xA1, num(2)) },
		"a version in a Seq":      func(p *parts) { p.version = put(0x30, num(2)) },
		"a serial in two":         func(p *parts) { p.serial = hexOf("0202 0003") },
		"no serial":               func(p *parts) { p.serial = nil },
		"two serials":             func(p *parts) { p.serial = append(num(3), num(3)...) },
		"a serial as a text":      func(p *parts) { p.serial = put(0x0C, []byte("3")) },
		"a serial as bytes":       func(p *parts) { p.serial = put(4, []byte{3}) },
		"a great serial":          func(p *parts) { p.serial = put(2, hexOf("01 00 00 00 00 00 00 00 03")) },
		"a greater serial":        func(p *parts) { p.serial = put(2, bytes.Repeat([]byte{3}, 40)) },
		"another way":             func(p *parts) { p.way = put(0x30, oid("2A 86 48 CE 3D 04 03 03")) },
		"a way and nothing":       func(p *parts) { p.way = put(0x30, oid("2A 86 48 CE 3D 04 03 02"), hexOf("0400")) },
		"a bare way":              func(p *parts) { p.way = oid("2A 86 48 CE 3D 04 03 02") },
		"no way":                  func(p *parts) { p.way = put(0x30) },
		"the key's way":           func(p *parts) { p.way = keyWay() },
		"a bare issuer":           func(p *parts) { p.issuer = put(0x0C, []byte("root")) },
		"an issuer in one":        func(p *parts) { p.issuer = put(0x30, oid("55 04 03"), put(0x0C, []byte("root"))) },
		"an issuer in two":        func(p *parts) { p.issuer = put(0x30, put(0x30, oid("55 04 03")), put(0x0C, []byte("root"))) },
		"an issuer of another":    func(p *parts) { p.issuer = put(0x30, put(0x30, oid("55 04 0A"), put(0x0C, []byte("root")))) },
		"an issuer as bytes":      func(p *parts) { p.issuer = put(0x30, put(0x30, oid("55 04 03"), put(4, []byte("root")))) },
		"an issuer in three":      func(p *parts) { p.issuer = put(0x30, name("root")) },
		"an issuer and more":      func(p *parts) { p.issuer = put(0x30, put(0x30, oid("55 04 03"), put(0x0C, []byte("root"))), num(1)) },
		"an issuer of two words":  func(p *parts) { p.issuer = put(0x30, put(0x30, oid("55 04 03"), put(0x0C, []byte("a")), put(0x0C))) },
		"an issuer turned round":  func(p *parts) { p.issuer = put(0x30, put(0x30, put(0x0C, []byte("root")), oid("55 04 03"))) },
		"no issuer":               func(p *parts) { p.issuer = put(0x30) },
		"a bare subject":          func(p *parts) { p.subject = put(0x0C, []byte("me")) },
		"a subject of another":    func(p *parts) { p.subject = put(0x30, put(0x30, oid("55 04 04"), put(0x0C, []byte("me")))) },
		"a subject as a number":   func(p *parts) { p.subject = put(0x30, put(0x30, oid("55 04 03"), num(5))) },
		"a subject and more":      func(p *parts) { p.subject = put(0x30, put(0x30, oid("55 04 03"), put(0x0C, []byte("me"))), num(1)) },
		"two subjects":            func(p *parts) { p.subject = append(name("me"), name("me")...) },
		"no subject":              func(p *parts) { p.subject = nil },
		"one time":                func(p *parts) { p.times = put(0x30, num(1)) },
		"three times":             func(p *parts) { p.times = put(0x30, num(1), num(9), num(9)) },
		"bare times":              func(p *parts) { p.times = append(num(1), num(9)...) },
		"times in a Part0":        func(p *parts) { p.times = put(0xA0, num(1), num(9)) },
		"times as texts":          func(p *parts) { p.times = put(0x30, put(0x0C, []byte("1")), put(0x0C, []byte("9"))) },
		"a time in two":           func(p *parts) { p.times = put(0x30, hexOf("0202 0001"), num(9)) },
		"a time below nought":     func(p *parts) { p.times = put(0x30, num(-1), num(9)) },
		"a great time":            func(p *parts) { p.times = put(0x30, num(1), put(2, bytes.Repeat([]byte{9}, 33))) },
		"another key's way":       func(p *parts) { p.keyWay = put(0x30, oid("2A 86 48 CE 3D 02 01"), oid("2A 86 48 CE 3D 03 01 08")) },
		"another sort of key":     func(p *parts) { p.keyWay = put(0x30, oid("2A 86 48 CE 3D 02 02"), oid("2A 86 48 CE 3D 03 01 07")) },
		"half a key's way":        func(p *parts) { p.keyWay = put(0x30, oid("2A 86 48 CE 3D 02 01")) },
		"no key's way":            func(p *parts) { p.keyWay = nil },
		"a key turned round":      func(p *parts) { p.keyWay, p.key = p.key, p.keyWay },
		"no key":                  func(p *parts) { p.key = nil },
		"a key as bytes":          func(p *parts) { p.key = put(4, []byte{0}, leaf().Key) },
		"a key without a nought":  func(p *parts) { p.key = put(3, leaf().Key) },
		"a key with two noughts":  func(p *parts) { p.key = put(3, []byte{0, 0}, leaf().Key) },
		"a key less two bits":     func(p *parts) { p.key = put(3, []byte{2}, leaf().Key) },
		"two keys":                func(p *parts) { p.key = append(p.key, p.key...) },
		"no constraints":          func(p *parts) { p.constraints = nil },
		"no uses":                 func(p *parts) { p.uses = nil },
		"no more uses":            func(p *parts) { p.moreUses = nil },
		"more uses twice":         func(p *parts) { p.moreUses = append(p.moreUses, p.moreUses...) },
		"uses turned round":       func(p *parts) { p.uses, p.moreUses = p.moreUses, p.uses },
		"constraints turned":      func(p *parts) { p.constraints, p.uses = p.uses, p.constraints },
		"another's constraints":   func(p *parts) { p.constraints = put(0x30, oid("55 1D 14"), yes(), put(4, put(0x30))) },
		"constraints that may be": func(p *parts) { p.constraints = put(0x30, oid("55 1D 13"), put(4, put(0x30))) },
		"constraints, no":         func(p *parts) { p.constraints = put(0x30, oid("55 1D 13"), hexOf("010100"), put(4, put(0x30))) },
		"constraints and more":    func(p *parts) { p.constraints = put(0x30, oid("55 1D 13"), yes(), put(4, put(0x30)), num(1)) },
		"bare constraints":        func(p *parts) { p.constraints = put(0x30, oid("55 1D 13"), yes(), put(0x30)) },
		"uses that may be":        func(p *parts) { p.uses = put(0x30, oid("55 1D 0F"), put(4, num(1))) },
		"uses, no":                func(p *parts) { p.uses = put(0x30, oid("55 1D 0F"), hexOf("010100"), put(4, num(1))) },
		"another's uses":          func(p *parts) { p.uses = put(0x30, oid("55 1D 10"), yes(), put(4, num(1))) },
		"bare uses":               func(p *parts) { p.uses = put(0x30, oid("55 1D 0F"), yes(), num(1)) },
		"more uses that must be":  func(p *parts) { p.moreUses = put(0x30, oid("55 1D 25"), yes(), put(4, num(2))) },
		"another's more uses":     func(p *parts) { p.moreUses = put(0x30, oid("55 1D 24"), put(4, num(2))) },
	} {
		p := partsOf(leaf())
		change(&p)
		isOutOfForm(t, p.signedBy(t, secrets()[0]), what)
	}
	isRead(t, partsOf(leaf()).signedBy(t, secrets()[0]), leaf(), "unchanged")
}

// What stands as bytes within bytes is as strict as the rest.
func TestOtherConstraints(t *testing.T) {
	for _, inner := range []string{
		"", "30", "30 00 00", "30 01", "30 81 00", "A0 00", "04 00", "01 01 FF", "02 01 00", "30 03 01 01 00", "30 03 01 01 FF", "30 03 01 01 01",
		"30 03 02 01 00", "30 06 01 01 00 02 01 00", "30 06 01 01 01 02 01 00", "30 06 02 01 00 01 01 FF", "30 09 01 01 FF 02 01 00 02 01 00",
		"30 06 01 01 FF 02 01 06", "30 06 01 01 FF 02 01 FF", "30 07 01 01 FF 02 02 00 01", "30 81 06 01 01 FF 02 01 00", "30 06 01 01 FF 0C 01 31",
		"30 06 01 01 FF 04 01 00", "A3 06 01 01 FF 02 01 00", "30 06 01 01 FF 02 01 00 00", "30 05 01 01 FF 02 01 00", "30 06 01 01 FF 01 01 FF",
		"30 08 30 06 01 01 FF 02 01 00", "30 0E 01 01 FF 02 09 01 00 00 00 00 00 00 00 00",
	} {
		for _, uses := range []int{cert.Sign, cert.Issue} {
			p := partsOf(with(func(c *cert.Cert) { c.Uses = uses }))
			p.constraints = constraints(hexOf(inner))
			isOutOfForm(t, p.signedBy(t, secrets()[0]), "constraints "+inner)
		}
	}
	for path := range 6 {
		p := partsOf(root())
		p.constraints = constraints(hexOf("30 06 01 01 FF 02 01"), []byte{byte(path)})
		want := root()
		want.Path = path
		isRead(t, p.signedBy(t, secrets()[0]), want, "a path")
	}
}

func TestOtherUses(t *testing.T) {
	if cert.Sign != 1 || cert.Issue != 2 || cert.Server != 4 || cert.Client != 8 {
		t.Error("the uses have other numbers")
	}
	wrong := []string{"", "02", "02 00", "02 01", "02 01 04", "02 01 05", "02 01 80", "02 01 FF", "02 02 00 01", "02 02 01 01", "02 81 01 01", "04 01 01",
		"0C 01 31", "01 01 FF", "30 03 02 01 01", "02 01 01 00", "02 01 01 02 01 01", "03 02 07 80", "02 08 3F FF FF FF FF FF FF FF",
		"02 08 40 00 00 00 00 00 00 00", "02 09 01 00 00 00 00 00 00 00 01"}
	for _, inner := range wrong {
		p := partsOf(leaf())
		p.uses = uses(hexOf(inner))
		isOutOfForm(t, p.signedBy(t, secrets()[0]), "uses "+inner)
		for _, own := range append(wrong, "02 01 00", "02 01 01") {
			p.uses, p.moreUses = uses(hexOf(own)), moreUses(hexOf(inner))
			isOutOfForm(t, p.whole(cert.WriteSig([64]byte{})), "more uses "+inner)
		}
	}
	for own := range 4 {
		for more := range 4 {
			want := leaf()
			want.Uses, want.CA = own+4*more, own >= 2
			p := partsOf(want)
			p.uses, p.moreUses = uses([]byte{2, 1, byte(own)}), moreUses([]byte{2, 1, byte(more)})
			isRead(t, p.signedBy(t, secrets()[0]), want, "uses")
		}
	}
}

// Around what is signed, too, nothing else stands.
func TestOtherWholes(t *testing.T) {
	p := partsOf(leaf())
	content, sig := p.content(), cert.WriteSig([64]byte{31: 1, 63: 1})
	bits := put(3, []byte{0}, sig)
	isRead(t, put(0x30, content, way(), bits), leaf(), "as it must be")
	for what, b := range map[string][]byte{
		"no bytes":                 nil,
		"nothing":                  put(0x30),
		"what is signed alone":     content,
		"no signature":             put(0x30, content, way()),
		"no way":                   put(0x30, content, bits),
		"nothing signed":           put(0x30, way(), bits),
		"another order":            put(0x30, way(), content, bits),
		"two signatures":           put(0x30, content, way(), bits, bits),
		"two ways":                 put(0x30, content, way(), way(), bits),
		"another way":              put(0x30, content, put(0x30, oid("2A 86 48 CE 3D 04 03 04")), bits),
		"the key's way":            put(0x30, content, keyWay(), bits),
		"a bare way":               put(0x30, content, oid("2A 86 48 CE 3D 04 03 02"), bits),
		"a Part0":                  put(0xA0, content, way(), bits),
		"content in a Part0":       put(0x30, put(0xA0, content), way(), bits),
		"content twice in a Seq":   put(0x30, put(0x30, content), way(), bits),
		"a signature as bytes":     put(0x30, content, way(), put(4, []byte{0}, sig)),
		"a bare signature":         put(0x30, content, way(), sig),
		"a signature less a bit":   put(0x30, content, way(), put(3, []byte{1}, append(bytes.Clone(sig[:len(sig)-1]), 0))),
		"a signature, no nought":   put(0x30, content, way(), put(3, sig)),
		"a signature, two noughts": put(0x30, content, way(), put(3, []byte{0, 0}, sig)),
		"an empty signature":       put(0x30, content, way(), put(3, []byte{0})),
		"a signature and a byte":   put(0x30, content, way(), put(3, []byte{0}, sig, []byte{0})),
		"less than a signature":    put(0x30, content, way(), put(3, []byte{0}, sig[:len(sig)-1])),
		"64 bytes":                 put(0x30, content, way(), put(3, []byte{0}, make([]byte, 64))),
		"more in what is signed":   put(0x30, put(0x30, content[3:], num(1)), way(), bits),
		"2048 noughts":             make([]byte, 2048),
		"2049 noughts":             make([]byte, 2049),
		"a great count":            put(0x30, content, way(), bits, put(4, make([]byte, 3000))),
	} {
		isOutOfForm(t, b, what)
	}
	for _, inner := range wrongSigs() {
		isOutOfForm(t, p.whole(inner), fmt.Sprintf("the signature %x", inner))
	}
}

func TestBeginningsAndMore(t *testing.T) {
	for _, c := range []cert.Cert{leaf(), root()} {
		b := made(t, c, secrets()[0])
		for i := range b {
			isOutOfForm(t, b[:i], "a beginning")
			isOutOfForm(t, b[i+1:], "an end")
		}
		for more := range 256 {
			isOutOfForm(t, append(bytes.Clone(b), byte(more)), "a byte more")
			isOutOfForm(t, append([]byte{byte(more)}, b...), "a byte ahead")
		}
		isOutOfForm(t, append(bytes.Clone(b), b...), "two of them")
		isOutOfForm(t, append(bytes.Clone(b), make([]byte, 2049)...), "more than there may be")
	}
}

// With a byte changed it is another certificate that its secret didn't sign, or none.
func TestEveryByteChanged(t *testing.T) {
	read, not := 0, 0
	for at, c := range []cert.Cert{leaf(), root()} {
		secret := secrets()[at]
		b, public := made(t, c, secret), publicOf(secret)
		for i := range b {
			for bit := range 8 {
				other := bytes.Clone(b)
				other[i] ^= 1 << bit
				got, e := cert.Read(other)
				if e == api.ErrForm {
					not++
					isOutOfForm(t, other, "a bit changed")
					continue
				}
				read++
				if n, _ := der.Read(other); e != api.OK || !bytes.Equal(partsOf(got).whole(n.Kids[2].Body[1:]), other) {
					t.Errorf("%x is read as %v: error %d", other, got, e)
				}
				if bit%3 == 0 {
					isSigned(t, api.ErrSig, other, public, "a bit changed")
				}
			}
		}
	}
	// Most of the bytes are names, numbers and the signature, or fixed.
	if read < 500 || not < 1000 {
		t.Errorf("%d read, %d not", read, not)
	}
}

// A certificate of which a part was changed isn't signed any more.
func TestEveryPartChanged(t *testing.T) {
	secret := secrets()[2]
	n, _ := der.Read(made(t, leaf(), secret))
	sig := n.Kids[2].Body[1:]
	for _, c := range certs() {
		want := api.ErrSig
		if same(c, leaf()) {
			want = api.OK
		}
		isSigned(t, want, partsOf(c).whole(sig), publicOf(secret), fmt.Sprint(c))
	}
}

func TestGreatestCert(t *testing.T) {
	b := made(t, greatest(), secrets()[4])
	if len(b) > api.MaxCert {
		t.Errorf("%d bytes", len(b))
	}
	isRead(t, b, greatest(), "the greatest")
}
