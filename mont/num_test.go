package mont_test

import (
	"math"
	"math/big"
	"math/rand"
	"testing"

	"tollgate/mont"
	"tollgate/sample"
)

const all = math.MaxUint64

// numOf is what of x is below 2^256.
func numOf(x *big.Int) mont.Num {
	var n mont.Num
	rest := new(big.Int).Set(x)
	for i := range n {
		n[i] = new(big.Int).And(rest, big.NewInt(0).SetUint64(all)).Uint64()
		rest.Rsh(rest, 64)
	}
	return n
}

func bigOf(n mont.Num) *big.Int {
	x := new(big.Int)
	for i := 3; i >= 0; i-- {
		x.Lsh(x, 64)
		x.Add(x, new(big.Int).SetUint64(n[i]))
	}
	return x
}

// anyNum is a number of any length of bits, and now and then one whose bits are long runs of the same.
func anyNum(r *rand.Rand) mont.Num {
	b := make([]byte, 32)
	r.Read(b)
	x := new(big.Int).SetBytes(b)
	if r.Intn(4) == 0 {
		x.Lsh(big.NewInt(1), uint(r.Intn(256)))
		y := new(big.Int).Lsh(big.NewInt(1), uint(r.Intn(256)))
		x.Sub(x, y).Abs(x)
	}
	return numOf(x.Rsh(x, uint(r.Intn(256))*uint(r.Intn(2))))
}

// edgeNums are those at the ends of the parts, and the smallest.
func edgeNums() []mont.Num {
	nums := []mont.Num{{all, all, all, all}, {all - 1, all, all, all}, {0, all, all, all}, {all, 0, all}, {0, all, 0, all}}
	for i := range uint64(10) {
		nums = append(nums, mont.Num{i})
	}
	for i := range 4 {
		for _, x := range []uint64{1, 2, 1 << 32, 1 << 63, all} {
			var n mont.Num
			n[i] = x
			nums = append(nums, n)
			for j := range i {
				n[j] = all
			}
			nums = append(nums, n)
		}
	}
	return nums
}

func TestOfIsHighestFirst(t *testing.T) {
	for i := range 32 {
		for _, x := range []byte{1, 0x80, 0xFF} {
			var b [32]byte
			b[31-i] = x
			var want mont.Num
			want[i/8] = uint64(x) << (8 * (i % 8))
			if got := mont.Of(b); got != want {
				t.Errorf("byte %d from the end, %x: %x, not %x", i, x, got, want)
			}
			if got := want.Bytes(); got != b {
				t.Errorf("%x: bytes %x, not %x", want, got, b)
			}
		}
	}
}

func TestOfAndBytes(t *testing.T) {
	for seed := range 200 {
		b := [32]byte(sample.Filled(32, seed))
		n := mont.Of(b)
		if n != numOf(new(big.Int).SetBytes(b[:])) || n.Bytes() != b {
			t.Errorf("%x: %x, back %x", b, n, n.Bytes())
		}
	}
	for _, n := range edgeNums() {
		b := n.Bytes()
		if new(big.Int).SetBytes(b[:]).Cmp(bigOf(n)) != 0 || mont.Of(b) != n {
			t.Errorf("%x: %x", n, b)
		}
	}
	if (mont.Of([32]byte{}) != mont.Num{}) || (mont.Num{}.Bytes() != [32]byte{}) {
		t.Error("nought")
	}
}

func TestLess(t *testing.T) {
	nums := edgeNums()
	r := rand.New(rand.NewSource(1))
	for range 60 {
		nums = append(nums, anyNum(r))
	}
	for _, a := range nums {
		for _, b := range nums {
			if a.Less(b) != (bigOf(a).Cmp(bigOf(b)) < 0) {
				t.Errorf("%x less than %x: %v", a, b, a.Less(b))
			}
		}
	}
}

func TestBit(t *testing.T) {
	for i := range 256 {
		one := numOf(new(big.Int).Lsh(big.NewInt(1), uint(i)))
		n := mont.Of([32]byte(sample.Filled(32, i)))
		for j := range 256 {
			want := 0
			if i == j {
				want = 1
			}
			if one.Bit(j) != want {
				t.Errorf("bit %d of 2^%d: %d", j, i, one.Bit(j))
			}
			if n.Bit(j) != int(bigOf(n).Bit(j)) {
				t.Errorf("bit %d of %x: %d", j, n, n.Bit(j))
			}
		}
	}
	full := mont.Num{all, all, all, all}
	for _, i := range []int{-1, -2, -64, -255, -256, -257, math.MinInt, 256, 257, 319, 320, 512, math.MaxInt} {
		if full.Bit(i) != 0 {
			t.Errorf("bit %d: %d", i, full.Bit(i))
		}
	}
}
