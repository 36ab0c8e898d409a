package tls

import (
	"tollgate/api"
	"tollgate/curve"
	"tollgate/hash"
	"tollgate/mac"
)

// What is drawn, by name.
const (
	randomName = "random"
	shareName  = "share"
	ageName    = "age"
	nonceName  = "nonce"
)

func drawn(draw [32]byte, name string) [32]byte { return mac.Derive(draw, name, hash.Of()) }

// drawnShare is a scalar, and its public bytes. What is drawn first is hardly ever none.
func drawnShare(draw [32]byte) (scalar [32]byte, share []byte) {
	scalar = drawn(draw, shareName)
	share, e := curve.Public(scalar)
	for e != api.OK {
		scalar = drawn(scalar, shareName)
		share, e = curve.Public(scalar)
	}
	return scalar, share
}

// drawnAge is of four bytes, the highest first.
func drawnAge(draw [32]byte) int {
	from, age := drawn(draw, ageName), 0
	for _, b := range from[:4] {
		age = age<<8 | int(b)
	}
	return age
}

func drawnNonce(draw [32]byte) [nonceSize]byte {
	from := drawn(draw, nonceName)
	return [nonceSize]byte(from[:nonceSize])
}
