package der_test

import (
	"encoding/asn1"
	"math"
	"math/big"
	"slices"
	"strings"
	"testing"

	"tollgate/api"
	"tollgate/der"
	"tollgate/sample"
)

func isNoNum(t *testing.T, n der.Node, what string) {
	t.Helper()
	if x, e := der.ToNum(n); e != api.ErrForm || x != 0 {
		t.Errorf("%s: the number %d, error %d", what, x, e)
	}
}

func isNoBig(t *testing.T, n der.Node, what string) {
	t.Helper()
	if x, e := der.ToBig(n); e != api.ErrForm || x != ([32]byte{}) {
		t.Errorf("%s: the number %x, error %d", what, x, e)
	}
}

func isNoWord(t *testing.T, n der.Node, what string) {
	t.Helper()
	if s, e := der.ToWord(n); e != api.ErrForm || s != "" {
		t.Errorf("%s: the text %q, error %d", what, s, e)
	}
}

func power(n uint) *big.Int { return new(big.Int).Lsh(big.NewInt(1), n) }

// edges are numbers by which the count of bytes changes, or a limit is passed; numbers below nought among them.
func edges() []*big.Int {
	var list []*big.Int
	for _, n := range []uint{0, 1, 6, 7, 8, 9, 15, 16, 23, 24, 31, 32, 54, 55, 56, 61, 62, 63, 64, 71, 127, 128, 247, 248, 254, 255, 256, 257, 263, 264, 300} {
		for by := int64(-2); by <= 2; by++ {
			x := new(big.Int).Add(power(n), big.NewInt(by))
			list = append(list, x, new(big.Int).Neg(x))
		}
	}
	for seed := range 40 {
		list = append(list, new(big.Int).SetBytes(sample.Filled(1+seed, seed)))
	}
	return list
}

// intOf is the Int of a number, by Go's library.
func intOf(t *testing.T, x *big.Int) der.Node {
	t.Helper()
	b, err := asn1.Marshal(x)
	if err != nil {
		t.Fatal(err)
	}
	// So few bytes have a count of one.
	return der.Node{Tag: der.Int, Body: b[2:]}
}

// within: is it 0 or above, and below a power of 2?
func within(x *big.Int, bits uint) bool { return x.Sign() >= 0 && x.Cmp(power(bits)) < 0 }

func TestNumbersOfAllSizes(t *testing.T) {
	for _, x := range edges() {
		of := intOf(t, x)
		comesBack(t, of)
		if within(x, 63) && !same(der.Num(int(x.Int64())), of) {
			t.Errorf("Num of %d: %v, not %v", x, der.Num(int(x.Int64())), of)
		}
		if !within(x, 62) {
			isNoNum(t, of, x.String())
		} else if y, e := der.ToNum(of); e != api.OK || int64(y) != x.Int64() {
			t.Errorf("ToNum of %d: %d, error %d", x, y, e)
		}
		if !within(x, 256) {
			isNoBig(t, of, x.String())
			continue
		}
		var b [32]byte
		x.FillBytes(b[:])
		if !same(der.Big(b), of) {
			t.Errorf("Big of %d: %v, not %v", x, der.Big(b), of)
		}
		if y, e := der.ToBig(of); e != api.OK || y != b {
			t.Errorf("ToBig of %d: %x, error %d", x, y, e)
		}
	}
}

func TestNum(t *testing.T) {
	for _, c := range []struct {
		n    int
		want string
	}{
		{0, "00"}, {1, "01"}, {127, "7F"}, {128, "00 80"}, {255, "00 FF"}, {256, "01 00"}, {32767, "7F FF"}, {32768, "00 80 00"},
		{1<<62 - 1, "3F FF FF FF FF FF FF FF"}, {1 << 62, "40 00 00 00 00 00 00 00"}, {math.MaxInt, "7F FF FF FF FF FF FF FF"},
		{-1, "00"}, {-128, "00"}, {-1 << 62, "00"}, {math.MinInt, "00"},
	} {
		if got := der.Num(c.n); !same(got, der.Node{Tag: der.Int, Body: sample.Bytes(t, c.want)}) {
			t.Errorf("of %d: %v, not %s", c.n, got, c.want)
		}
	}
	for n := range 70000 {
		if x, e := der.ToNum(der.Num(n)); e != api.OK || x != n {
			t.Errorf("%d comes back as %d: error %d", n, x, e)
		}
	}
	for _, n := range []int{1 << 62, 1<<62 + 1, math.MaxInt} {
		isNoNum(t, der.Num(n), "above 2^62 - 1")
	}
	if x, e := der.ToNum(der.Num(1<<62 - 1)); e != api.OK || x != 1<<62-1 {
		t.Errorf("2^62 - 1 comes back as %d: error %d", x, e)
	}
}

// Each byte counts, and bytes ahead that don't fit aren't dropped.
func TestNumbersThatDoNotFit(t *testing.T) {
	for size := 9; size <= 40; size++ {
		body := make([]byte, size)
		body[0], body[size-1] = 1, 5
		isNoNum(t, der.Node{Tag: der.Int, Body: body}, "too many bytes")
		if size > 32 {
			isNoBig(t, der.Node{Tag: der.Int, Body: body}, "too many bytes")
		}
	}
	full := slices.Repeat([]byte{0xFF}, 32)
	if b, e := der.ToBig(der.Node{Tag: der.Int, Body: append([]byte{0}, full...)}); e != api.OK || b != [32]byte(full) {
		t.Errorf("2^256 - 1: %x, error %d", b, e)
	}
	isNoBig(t, der.Node{Tag: der.Int, Body: append([]byte{1}, full...)}, "above 2^256")
	isNoBig(t, der.Node{Tag: der.Int, Body: append([]byte{0, 0xFF}, full...)}, "above 2^256")
	isNoBig(t, der.Node{Tag: der.Int, Body: sample.Filled(70000, 2)}, "a great number")
	isNoNum(t, der.Node{Tag: der.Int, Body: make([]byte, 70000)}, "many noughts")
}

func TestWhatIsNoNumber(t *testing.T) {
	for _, body := range []string{"", "00 00", "00 05", "00 7F", "FF FF", "FF 80", "80", "FF", "FF 7F", "80 00", "80 00 00 00 00 00 00 00"} {
		n := der.Node{Tag: der.Int, Body: sample.Bytes(t, body)}
		isNoNum(t, n, body)
		isNoBig(t, n, body)
	}
	for tag := -1; tag < 300; tag++ {
		for _, body := range []string{"", "00", "05", "FF", "00 80"} {
			n := der.Node{Tag: tag, Body: sample.Bytes(t, body)}
			if tag != der.Int {
				isNoNum(t, n, "another tag")
				isNoBig(t, n, "another tag")
			}
			n.Kids = []der.Node{der.Num(1)}
			isNoNum(t, n, "with kids")
			isNoBig(t, n, "with kids")
		}
	}
	isNoNum(t, der.Node{}, "nothing")
	isNoBig(t, der.Node{}, "nothing")
}

func TestWord(t *testing.T) {
	for _, s := range []string{"", "a", "ab", " ", "~", strings.Repeat("x", 63), strings.Repeat("y", 64), " !\"#$%&'()*+,-./09:@AZ[`az{~"} {
		n := der.Word(s)
		if !same(n, der.Node{Tag: der.Text, Body: []byte(s)}) {
			t.Errorf("of %q: %v", s, n)
		}
		if got, e := der.ToWord(n); e != api.OK || got != s {
			t.Errorf("%q comes back as %q: error %d", s, got, e)
		}
		comesBack(t, n)
	}
	for _, size := range []int{65, 66, 1000, 3000} {
		n := der.Word(strings.Repeat("z", size))
		isNoWord(t, n, "too long a text")
		if size <= 1000 {
			comesBack(t, n)
		} else {
			isNotWritten(t, api.ErrBig, n, "too long a text")
		}
	}
}

func TestWhatIsNoWord(t *testing.T) {
	for c := range 256 {
		for _, s := range []string{string([]byte{byte(c)}), string([]byte{'a', byte(c)}), string([]byte{byte(c), 'b', 'c'})} {
			n := der.Word(s)
			if !same(n, der.Node{Tag: der.Text, Body: []byte(s)}) {
				t.Errorf("of %q: %v", s, n)
			}
			if c >= 0x20 && c <= 0x7E {
				comesBack(t, n)
				continue
			}
			isNoWord(t, n, "another byte")
			isOutOfForm(t, n, "another byte")
		}
	}
	for tag := -1; tag < 300; tag++ {
		n := der.Node{Tag: tag, Body: []byte("1")}
		if tag != der.Text {
			isNoWord(t, n, "another tag")
			isNoWord(t, der.Node{Tag: tag}, "another tag")
		}
		n.Kids = []der.Node{der.Num(1)}
		isNoWord(t, n, "with kids")
	}
	isNoWord(t, der.Node{}, "nothing")
}
