package cert_test

import (
	"bytes"
	"math/big"
	"testing"

	"tollgate/api"
	"tollgate/cert"
	"tollgate/curve"
	"tollgate/sample"
)

// halves are a signature's halves at the edges, and others: any number of 32 bytes is one.
func halves() [][32]byte {
	list := [][32]byte{{}, {31: 1}, {31: 0x7F}, {31: 0x80}, {31: 0xFF}, {30: 1}, {0: 1}, {0: 0x7F}, {0: 0x80}, {1: 0x80}, curve.Order(),
		[32]byte(bytes.Repeat([]byte{0xFF}, 32))}
	for seed := range 6 {
		list = append(list, [32]byte(sample.Filled(32, seed)))
	}
	return list
}

func bigHalf(b [32]byte) *big.Int { return new(big.Int).SetBytes(b[:]) }

// wrongSigs are bytes that are no signature's.
func wrongSigs() [][]byte {
	one := num(1)
	above := new(big.Int).Lsh(big.NewInt(1), 256)
	list := [][]byte{
		nil, one, put(0x30), put(0x30, one), put(0x30, one, one, one), put(0xA0, one, one), put(4, one, one), put(0x30, one, put(0x0C, []byte("1"))),
		put(0x30, put(4, []byte{1}), one), put(0x30, num(-1), one), put(0x30, one, num(-1)), put(0x30, bigNum(above), one), put(0x30, one, bigNum(above)),
		put(0x30, one, put(2, []byte{0, 1})), put(0x30, put(2), one), put(0x30, one, put(2)), put(0x30, put(2, []byte{0, 0}), one),
		put(0x30, put(0x30, one, one)), append(put(0x30, one, one), 0), hexOf("30 81 06 02 01 01 02 01 01"), hexOf("30 07 02 81 01 01 02 01 01"),
		hexOf("30 80 02 01 01 02 01 01 00 00"), hexOf("31 06 02 01 01 02 01 01"), make([]byte, 64), make([]byte, 2048), make([]byte, 2049),
		put(0x30, one, put(2, bytes.Repeat([]byte{1}, 33))), put(0x30, one, put(2, bytes.Repeat([]byte{1}, 3000))), put(0x30, one, put(1, []byte{0xFF})),
	}
	good := sigBytes([64]byte(sample.Filled(64, 3)))
	for i := range good {
		list = append(list, good[:i])
	}
	return list
}

func TestKnownSig(t *testing.T) {
	if b := cert.WriteSig([64]byte{}); !bytes.Equal(b, hexOf("30 06 02 01 00 02 01 00")) {
		t.Errorf("of noughts: %x", b)
	}
	if b := cert.WriteSig([64]byte{31: 5, 63: 0x80}); !bytes.Equal(b, hexOf("30 07 02 01 05 02 02 00 80")) {
		t.Errorf("of 5 and 128: %x", b)
	}
}

func TestSigs(t *testing.T) {
	for _, r := range halves() {
		for _, s := range halves() {
			sig := [64]byte(append(bytes.Clone(r[:]), s[:]...))
			want := put(0x30, bigNum(bigHalf(r)), bigNum(bigHalf(s)))
			if b := cert.WriteSig(sig); !bytes.Equal(b, want) {
				t.Errorf("of %x: %x, not %x", sig, b, want)
			}
			if got, e := cert.ReadSig(want); e != api.OK || got != sig {
				t.Errorf("%x is read as %x, not %x: error %d", want, got, sig, e)
			}
			// Whether it can be anybody's, is asked by Signed alone.
			isRead(t, partsOf(leaf()).whole(want), leaf(), "any signature")
		}
	}
}

func TestWrongSigs(t *testing.T) {
	for _, b := range wrongSigs() {
		if sig, e := cert.ReadSig(b); e != api.ErrForm || sig != ([64]byte{}) {
			t.Errorf("%.99x is read as %x: error %d", b, sig, e)
		}
	}
}

// With a byte changed it is another signature, or none.
func TestSigsWithEveryByteChanged(t *testing.T) {
	for seed := range 4 {
		sig := [64]byte(sample.Filled(64, seed))
		b := cert.WriteSig(sig)
		for i := range b {
			for change := 1; change < 256; change++ {
				other := bytes.Clone(b)
				other[i] ^= byte(change)
				got, e := cert.ReadSig(other)
				switch {
				case e == api.ErrForm && got == [64]byte{}:
				case e == api.OK && got != sig && bytes.Equal(sigBytes(got), other):
				default:
					t.Errorf("%x is read as %x: error %d", other, got, e)
				}
			}
		}
		for more := range 256 {
			if _, e := cert.ReadSig(append(bytes.Clone(b), byte(more))); e != api.ErrForm {
				t.Errorf("%x and %x: error %d", b, more, e)
			}
		}
	}
}
