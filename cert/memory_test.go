package cert_test

import (
	"bytes"
	"testing"

	"tollgate/api"
	"tollgate/cert"
	"tollgate/sample"
)

func TestMakeKeepsAndChangesNothing(t *testing.T) {
	secret, key := secrets()[3], leaf().Key
	want := made(t, leaf(), secret)
	handed := with(func(c *cert.Cert) { c.Key = sample.Roomy(key) })
	b := made(t, handed, secret)
	sample.Unchanged(t, "the key", handed.Key, key)
	clear(handed.Key[:cap(handed.Key)])
	if !bytes.Equal(b, want) {
		t.Error("the key is kept, or its room looked at")
	}
	clear(b[:cap(b)])
	if !bytes.Equal(made(t, leaf(), secret), want) {
		t.Error("an answer is kept")
	}
	for _, n := range []int{0, 1, 64, 66} {
		wrong := sample.Filled(n, 7)
		handed.Key = sample.Roomy(wrong)
		if b, e := cert.Make(handed, secret); e != api.ErrForm || len(b) > 0 {
			t.Errorf("a key of %d bytes: %x, error %d", n, b, e)
		}
		sample.Unchanged(t, "a wrong key", handed.Key, wrong)
	}
}

func TestReadKeepsAndChangesNothing(t *testing.T) {
	for _, want := range certs() {
		b := partsOf(want).whole(cert.WriteSig([64]byte{31: 1}))
		handed := sample.Roomy(b)
		c, e := cert.Read(handed)
		sample.Unchanged(t, "the bytes", handed, b)
		clear(handed[:cap(handed)])
		if e != api.OK || !same(c, want) {
			t.Errorf("%v, not %v: error %d", c, want, e)
		}
		handed = sample.Roomy(b)
		c, _ = cert.Read(handed)
		again, _ := cert.Read(handed)
		clear(c.Key[:cap(c.Key)])
		sample.Unchanged(t, "the bytes", handed, b)
		if !same(again, want) {
			t.Error("two answers share memory")
		}
	}
}

func TestSignedKeepsAndChangesNothing(t *testing.T) {
	secret := secrets()[3]
	b, public := made(t, root(), secret), publicOf(secret)
	for _, other := range [][]byte{public, publicOf(secrets()[0]), nil, sample.Filled(65, 1)} {
		for _, bytesOf := range [][]byte{b, b[:len(b)-1], nil, sample.Filled(300, 1)} {
			handed, by := sample.Roomy(bytesOf), sample.Roomy(other)
			e := cert.Signed(handed, by)
			sample.Unchanged(t, "the bytes", handed, bytesOf)
			sample.Unchanged(t, "the public bytes", by, other)
			if again := cert.Signed(bytesOf, other); again != e {
				t.Errorf("error %d, then %d", e, again)
			}
		}
	}
}

func TestWrongBytesStayAsTheyWere(t *testing.T) {
	b := made(t, leaf(), secrets()[0])
	for _, wrong := range append(wrongSigs(), b[:40], append(bytes.Clone(b), 0), sample.Filled(400, 2)) {
		handed := sample.Roomy(wrong)
		if c, e := cert.Read(handed); e != api.ErrForm || !isNone(c) {
			t.Errorf("%.99x is read as %v: error %d", wrong, c, e)
		}
		cert.ReadSig(handed)
		sample.Unchanged(t, "wrong bytes", handed, wrong)
	}
}

func TestSigsKeepAndChangeNothing(t *testing.T) {
	sig := [64]byte(sample.Filled(64, 8))
	want := sigBytes(sig)
	handed := sample.Roomy(want)
	got, e := cert.ReadSig(handed)
	sample.Unchanged(t, "the signature's bytes", handed, want)
	if e != api.OK || got != sig {
		t.Errorf("%x, error %d", got, e)
	}
	b, again := cert.WriteSig(sig), cert.WriteSig(sig)
	clear(b[:cap(b)])
	if !bytes.Equal(again, want) || !bytes.Equal(cert.WriteSig(sig), want) {
		t.Error("two answers share memory")
	}
}
