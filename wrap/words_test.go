package wrap_test

import (
	"bytes"
	"crypto/md5"
	"slices"
	"testing"

	"tollgate/api"
	"tollgate/sample"
	"tollgate/wrap"
)

// mostKey is the document's own number: how many bytes a key has at most.
const mostKey = 200

var (
	asked = [16]byte(sample.Filled(16, 4))
	salt  = [2]byte{0x80, 0x01}
)

// given is what a key is wrapped with.
type given struct {
	kind   int
	key    []byte
	salt   [2]byte
	asked  [16]byte
	secret []byte
}

func (g given) mayBe() bool {
	return (g.kind == 16 || g.kind == 17) && len(g.key) >= 1 && len(g.key) <= mostKey && g.salt[0] >= 0x80
}

// hidden is what bytes are hidden as, up to a multiple of 16.
func hidden(b []byte, salt [2]byte, asked [16]byte, secret []byte) []byte {
	plain := slices.Concat(b, make([]byte, (16-len(b)%16)%16))
	var all []byte
	ahead := slices.Concat(asked[:], salt[:])
	for len(plain) > 0 {
		mask := md5.Sum(slices.Concat(secret, ahead))
		for i, m := range mask {
			all = append(all, plain[i]^m)
		}
		ahead, plain = all[len(all)-16:], plain[16:]
	}
	return all
}

// valueOf puts a value together by the document's words, of any plain bytes, be they a key and its count or not.
func valueOf(kind byte, plain []byte, salt [2]byte, asked [16]byte, secret []byte) []byte {
	h := hidden(plain, salt, asked, secret)
	return slices.Concat([]byte{0, 0, 1, 0x37, kind, byte(4 + len(h))}, salt[:], h)
}

func (g given) value() []byte {
	return valueOf(byte(g.kind), slices.Concat([]byte{byte(len(g.key))}, g.key), g.salt, g.asked, g.secret)
}

// isWrapped holds what Wrap answers against the document's words, and has it unwrapped.
func isWrapped(t *testing.T, g given) {
	t.Helper()
	v, e := wrap.Wrap(g.kind, g.key, g.salt, g.asked, g.secret)
	if !g.mayBe() {
		if e != api.ErrArg || len(v) > 0 {
			t.Errorf("kind %d, %d bytes, salt %x: %x, error %d", g.kind, len(g.key), g.salt, v, e)
		}
		return
	}
	if e != api.OK || !bytes.Equal(v, g.value()) {
		t.Errorf("kind %d, %d bytes, salt %x: %x, not %x, error %d", g.kind, len(g.key), g.salt, v, g.value(), e)
	}
	if kind, key, e := wrap.Unwrap(g.value(), g.asked, g.secret); e != api.OK || kind != g.kind || !bytes.Equal(key, g.key) {
		t.Errorf("kind %d, %x: unwrapped are kind %d, %x, error %d", g.kind, g.key, kind, key, e)
	}
}

// plainOf is what is hidden in a value: the other way round.
func plainOf(v []byte, asked [16]byte, secret []byte) []byte {
	var plain []byte
	ahead := slices.Concat(asked[:], v[6:8])
	for at := 8; at < len(v); at += 16 {
		mask := md5.Sum(slices.Concat(secret, ahead))
		ahead = v[at : at+16]
		for i, m := range mask {
			plain = append(plain, ahead[i]^m)
		}
	}
	return plain
}

// keyOf is what Unwrap must answer of a value, by the document's words: none, if there is none.
func keyOf(v []byte, asked [16]byte, secret []byte) (int, []byte) {
	if len(v) < 24 || len(v)%16 != 8 || !bytes.Equal(v[:4], []byte{0, 0, 1, 0x37}) || v[4] != 16 && v[4] != 17 || int(v[5]) != len(v)-4 || v[6] < 0x80 {
		return 0, nil
	}
	plain := plainOf(v, asked, secret)
	n := int(plain[0])
	// The key and its count, and fewer than 16 noughts behind: these are all.
	if n == 0 || n > mostKey || 1+n > len(plain) || len(plain)-1-n > 15 || !bytes.Equal(plain[1+n:], make([]byte, len(plain)-1-n)) {
		return 0, nil
	}
	return int(v[4]), plain[1 : 1+n]
}

// isUnwrapped holds what Unwrap answers of v against the document's words, and tells whether there is a key.
func isUnwrapped(t *testing.T, v []byte, asked [16]byte, secret []byte) bool {
	t.Helper()
	want, wantKey := keyOf(v, asked, secret)
	wantE := api.OK
	if want == 0 {
		wantE = api.ErrForm
	}
	if kind, key, e := wrap.Unwrap(v, asked, secret); e != wantE || kind != want || !bytes.Equal(key, wantKey) {
		t.Errorf("%.30x (%d bytes): kind %d, %x, error %d, not %d, %x", v, len(v), kind, key, e, want, wantKey)
	}
	return want != 0
}

func isNone(t *testing.T, v []byte, secret []byte) {
	t.Helper()
	if isUnwrapped(t, v, asked, secret) {
		t.Errorf("%.30x (%d bytes): there is a key", v, len(v))
	}
}
