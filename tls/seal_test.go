package tls_test

import (
	"crypto/aes"
	"crypto/cipher"
	"crypto/hkdf"
	"crypto/sha256"
	"encoding/binary"
	"testing"
)

func labelled(t *testing.T, secret [32]byte, name string, n int) []byte {
	t.Helper()
	info := append([]byte{0, byte(n), byte(6 + len(name))}, "tls13 "+name+"\x00"...)
	b, err := hkdf.Expand(sha256.New, secret[:], string(info), n)
	if err != nil {
		t.Fatal(err)
	}
	return b
}

// sealedInside is the n-th record by a secret that holds just that, right or wrong, by Go's library.
func sealedInside(t *testing.T, secret [32]byte, n int, inside []byte) []byte {
	t.Helper()
	block, err := aes.NewCipher(labelled(t, secret, "key", 16))
	if err != nil {
		t.Fatal(err)
	}
	box, err := cipher.NewGCM(block)
	if err != nil {
		t.Fatal(err)
	}
	nonce := labelled(t, secret, "iv", 12)
	binary.BigEndian.PutUint64(nonce[4:], binary.BigEndian.Uint64(nonce[4:])^uint64(n))
	size := len(inside) + 16
	head := []byte{23, 3, 3, byte(size >> 8), byte(size)}
	return append(head, box.Seal(nil, nonce, inside, head)...)
}
