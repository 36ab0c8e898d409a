// Package sample has the bytes that the tests of all packages hand in, and tells what became of them. The program
// itself doesn't call it.
package sample

import (
	"bytes"
	"strconv"
	"strings"
)

const (
	spare = 300
	mark  = 0xEE
)

// Test is what a test tells its faults to.
type Test interface {
	Helper()
	Errorf(format string, args ...any)
}

// Filled is n bytes that follow no short period, others for each seed.
func Filled(n, seed int) []byte {
	b := make([]byte, n)
	x := uint32(n)*2654435761 + uint32(seed)*40503 + 12345
	for i := range b {
		x = x*1664525 + 1013904223
		b[i] = byte(x >> 24)
	}
	return b
}

// Bytes are what digits of base 16 say; spaces among them don't count.
func Bytes(t Test, digits string) []byte {
	t.Helper()
	digits = strings.ReplaceAll(digits, " ", "")
	var b []byte
	for len(digits) > 0 {
		n := min(2, len(digits))
		x, err := strconv.ParseUint(digits[:n], 16, 8)
		if err != nil || n < 2 {
			t.Errorf("no byte: %q", digits[:n])
			return nil
		}
		b = append(b, byte(x))
		digits = digits[n:]
	}
	return b
}

// Roomy is a copy of b with spare room behind it that holds marks.
func Roomy(b []byte) []byte {
	room := bytes.Repeat([]byte{mark}, len(b)+spare)
	copy(room, b)
	return room[:len(b)]
}

// Unchanged tells a fault, if what Roomy made of want isn't any more what it was.
func Unchanged(t Test, what string, got, want []byte) {
	t.Helper()
	if !bytes.Equal(got, want) {
		t.Errorf("%s was changed", what)
	}
	if !bytes.Equal(got[len(got):cap(got)], Roomy(nil)[:spare]) {
		t.Errorf("%s: its spare room was changed", what)
	}
}
