// Package mac is layer 3: marks by a key, and keys made of keys: see shared/doc/03-mac.md.
package mac

import (
	"tollgate/api"
	"tollgate/hash"
)

const (
	blockSize = 64
	sumSize   = 32
	// mostBytes is what Expand can make: it counts its parts in one byte, from 1 on.
	mostBytes = 255 * sumSize
	// mostCount is what a count of one byte can say.
	mostCount = 255
	prefix    = "tls13 "
)

// Of: bytes' mark by a key.
func Of(key []byte, parts ...[]byte) [32]byte {
	inner, outer := pads(key)
	s := hash.New()
	s.Put(inner[:])
	s.Put(parts...)
	sum := s.Sum()
	return hash.Of(outer[:], sum[:])
}

// Same: are both the same bytes? It looks at all of them.
func Same(a, b []byte) bool {
	if len(a) != len(b) {
		return false
	}
	// No early answer: how long it takes must not tell where the first difference is.
	var differ byte
	for i := range a {
		differ |= a[i] ^ b[i]
	}
	return differ == 0
}

// Extract: a key of what isn't one; Expand: so many bytes of a key; Label: by a name, and a context.
func Extract(salt, from []byte) [32]byte { return Of(salt, from) }

func Expand(key [32]byte, info []byte, n int) ([]byte, api.Errno) {
	if n < 0 || n > mostBytes {
		return nil, api.ErrArg
	}
	made := make([]byte, n)
	var last []byte
	for at, k := 0, byte(1); at < n; at, k = at+sumSize, k+1 {
		t := Of(key[:], last, info, []byte{k})
		copy(made[at:], t[:])
		last = t[:]
	}
	return made, api.OK
}

func Label(key [32]byte, label string, context []byte, n int) ([]byte, api.Errno) {
	if len(label) > mostCount-len(prefix) || len(context) > mostCount {
		return nil, api.ErrArg
	}
	info := []byte{byte(n >> 8), byte(n), byte(len(prefix) + len(label))}
	info = append(info, prefix...)
	info = append(info, label...)
	info = append(info, byte(len(context)))
	info = append(info, context...)
	return Expand(key, info, n)
}

// Derive: a key by a name, and a sum of messages.
func Derive(key [32]byte, label string, sum [32]byte) [32]byte {
	made, e := Label(key, label, sum[:], sumSize)
	if e != api.OK {
		return [32]byte{}
	}
	return [32]byte(made)
}

// pads makes of a key the two blocks that begin HMAC's two sums; a key beyond a block counts as its sum.
func pads(key []byte) (inner, outer [blockSize]byte) {
	var block [blockSize]byte
	if len(key) > blockSize {
		sum := hash.Of(key)
		copy(block[:], sum[:])
	} else {
		copy(block[:], key)
	}
	for i, k := range block {
		inner[i], outer[i] = k^0x36, k^0x5c
	}
	return inner, outer
}
