package mont_test

import (
	"math/big"
	"math/rand"
	"sync"
	"testing"

	"tollgate/api"
	"tollgate/mont"
)

func made(t *testing.T, m mont.Num) *mont.Mod {
	t.Helper()
	by, e := mont.New(m)
	if e != api.OK || by == nil {
		t.Fatalf("the modulus %x: error %d", m, e)
	}
	return by
}

// The prime and the order of P-256, and the greatest prime below 2^256.
var (
	prime    = mont.Num{all, 0xffffffff, 0, 0xffffffff00000001}
	order    = mont.Num{0xf3b9cac2fc632551, 0xbce6faada7179e84, all, 0xffffffff00000000}
	greatest = mont.Num{all - 188, all, all, all}
)

// edgeModuli are the smallest, those at the ends of the parts, primes, and such as have many divisors.
func edgeModuli() []mont.Num {
	moduli := []mont.Num{
		prime, order, greatest, {3}, {5}, {7}, {9}, {15}, {27}, {105}, {all, all, all, all}, {all - 2, all, all, all},
		{1, 0, 0, 1 << 63}, {all, all, all, all >> 1}, {1, 0, 0, all}, {all, 0, all}, {all, 0, 0, 1}, {3, 0, 0, 3},
	}
	for i := range 4 {
		for _, x := range []uint64{1, 2, 1 << 32, 1 << 63, all} {
			var n mont.Num
			n[i] = x
			n[0] |= 1
			if !n.Less(mont.Num{3}) {
				moduli = append(moduli, n)
			}
		}
	}
	return moduli
}

// numsFor are the edges that a modulus has, and all others.
func numsFor(m mont.Num) []mont.Num {
	x := bigOf(m)
	nums := edgeNums()
	for _, times := range []int64{1, 2, 3} {
		for _, more := range []int64{-2, -1, 0, 1, 2} {
			y := new(big.Int).Mul(x, big.NewInt(times))
			y.Add(y, big.NewInt(more))
			if y.BitLen() <= 256 {
				nums = append(nums, numOf(y))
			}
		}
	}
	half := new(big.Int).Rsh(x, 1)
	most := new(big.Int).Lsh(big.NewInt(1), 256)
	most.Sub(most, new(big.Int).Mod(most, x))
	return append(nums, numOf(half), numOf(half.Add(half, big.NewInt(1))), numOf(most.Sub(most, big.NewInt(1))))
}

// agree holds what two numbers make, and the rest of the first, against Go's library.
func agree(t *testing.T, by *mont.Mod, m, a, b mont.Num) {
	t.Helper()
	n, x, y := bigOf(m), bigOf(a), bigOf(b)
	rest := func(z *big.Int) mont.Num { return numOf(z.Mod(z, n)) }
	if got, want := by.Rest(a), rest(new(big.Int).Set(x)); got != want {
		t.Errorf("by %x: Rest(%x) = %x, not %x", m, a, got, want)
	}
	if got, want := by.Add(a, b), rest(new(big.Int).Add(x, y)); got != want {
		t.Errorf("by %x: Add(%x, %x) = %x, not %x", m, a, b, got, want)
	}
	if got, want := by.Sub(a, b), rest(new(big.Int).Sub(x, y)); got != want {
		t.Errorf("by %x: Sub(%x, %x) = %x, not %x", m, a, b, got, want)
	}
	if got, want := by.Mul(a, b), rest(new(big.Int).Mul(x, y)); got != want {
		t.Errorf("by %x: Mul(%x, %x) = %x, not %x", m, a, b, got, want)
	}
}

func agreePow(t *testing.T, by *mont.Mod, m, a, e mont.Num) {
	t.Helper()
	want := numOf(new(big.Int).Exp(bigOf(a), bigOf(e), bigOf(m)))
	if got := by.Pow(a, e); got != want {
		t.Errorf("by %x: Pow(%x, %x) = %x, not %x", m, a, e, got, want)
	}
}

func agreeInv(t *testing.T, by *mont.Mod, m, a mont.Num) {
	t.Helper()
	got, e := by.Inv(a)
	want := new(big.Int).ModInverse(bigOf(a), bigOf(m))
	if want == nil {
		if e != api.ErrArg || got != (mont.Num{}) {
			t.Errorf("by %x: Inv(%x) = %x, error %d", m, a, got, e)
		}
		return
	}
	if e != api.OK || got != numOf(want) {
		t.Errorf("by %x: Inv(%x) = %x, not %x, error %d", m, a, got, numOf(want), e)
	}
}

func TestExamples(t *testing.T) {
	seven := made(t, mont.Num{7})
	if got := seven.Sub(mont.Num{3}, mont.Num{5}); got != (mont.Num{5}) {
		t.Errorf("3 - 5 by 7: %x", got)
	}
	if got, e := seven.Inv(mont.Num{3}); got != (mont.Num{5}) || e != api.OK {
		t.Errorf("1 over 3 by 7: %x, error %d", got, e)
	}
	if got := seven.Pow(mont.Num{3}, mont.Num{6}); got != (mont.Num{1}) {
		t.Errorf("3 to the 6 by 7: %x", got)
	}
	if got, e := made(t, mont.Num{9}).Inv(mont.Num{3}); got != (mont.Num{}) || e != api.ErrArg {
		t.Errorf("1 over 3 by 9: %x, error %d", got, e)
	}
}

func TestModuliThatAreNone(t *testing.T) {
	wrong := []mont.Num{
		{}, {1}, {2}, {4}, {6}, {1 << 63}, {0, 1}, {2, 1}, {0, 0, 1}, {0, 0, 0, 1}, {0, 0, 0, 1 << 63}, {0, all, all, all},
		{all - 1, all, all, all}, {all - 1}, {0, 1, 1, 1}, {2, 0, 0, 1},
	}
	r := rand.New(rand.NewSource(1))
	for range 100 {
		n := anyNum(r)
		n[0] &^= 1
		wrong = append(wrong, n)
	}
	for _, m := range wrong {
		if by, e := mont.New(m); e != api.ErrArg || by != nil {
			t.Errorf("the modulus %x: %v, error %d", m, by, e)
		}
	}
}

func TestEverySmallModulus(t *testing.T) {
	for m := uint64(3); m < 40; m += 2 {
		by := made(t, mont.Num{m})
		for a := range 2*m + 2 {
			agreeInv(t, by, mont.Num{m}, mont.Num{a})
			for b := range 2*m + 2 {
				agree(t, by, mont.Num{m}, mont.Num{a}, mont.Num{b})
				agreePow(t, by, mont.Num{m}, mont.Num{a}, mont.Num{b})
			}
		}
	}
}

func TestEdges(t *testing.T) {
	for _, m := range edgeModuli() {
		by := made(t, m)
		nums := numsFor(m)
		for _, a := range nums {
			agreeInv(t, by, m, a)
			for _, b := range nums {
				agree(t, by, m, a, b)
			}
		}
	}
}

func TestPowEdges(t *testing.T) {
	for _, m := range []mont.Num{{3}, {9}, {all, all, all, all}, {1, 0, 0, 1 << 63}, {1, 1}, prime, order, greatest} {
		by := made(t, m)
		nums := numsFor(m)
		for i, a := range nums {
			if got := by.Pow(a, mont.Num{}); got != (mont.Num{1}) {
				t.Errorf("by %x: %x to the 0: %x", m, a, got)
			}
			if got := by.Pow(a, mont.Num{1}); got != by.Rest(a) {
				t.Errorf("by %x: %x to the 1: %x", m, a, got)
			}
			for _, e := range nums[i%3:] {
				agreePow(t, by, m, a, e)
			}
		}
		for i := range 256 {
			agreePow(t, by, m, mont.Num{3, 1, 4, 1}, numOf(new(big.Int).Lsh(big.NewInt(1), uint(i))))
		}
	}
	for _, p := range []mont.Num{{3}, {5}, {7}, prime, order, greatest} {
		by := made(t, p)
		if got := by.Pow(mont.Num{2}, numOf(new(big.Int).Sub(bigOf(p), big.NewInt(1)))); got != (mont.Num{1}) {
			t.Errorf("2 to the p - 1 by %x: %x", p, got)
		}
	}
}

func TestAnyNumbers(t *testing.T) {
	r := rand.New(rand.NewSource(2))
	for range 4000 {
		m := anyNum(r)
		m[0] |= 1
		if m.Less(mont.Num{3}) {
			continue
		}
		by := made(t, m)
		a, b := anyNum(r), anyNum(r)
		agree(t, by, m, a, b)
		agree(t, by, m, a, a)
		agreePow(t, by, m, a, b)
		agreeInv(t, by, m, a)
	}
}

// What times a number is 1: of all that are below a prime, but nought; of none that has a divisor in common.
func TestInv(t *testing.T) {
	r := rand.New(rand.NewSource(3))
	for _, p := range []mont.Num{prime, order, greatest, {3}} {
		by := made(t, p)
		for range 300 {
			a := anyNum(r)
			inverse, e := by.Inv(a)
			if (by.Rest(a) == mont.Num{}) {
				continue
			}
			if e != api.OK || by.Mul(inverse, a) != (mont.Num{1}) || !inverse.Less(p) {
				t.Errorf("by %x: Inv(%x) = %x, error %d", p, a, inverse, e)
			}
		}
	}
	for range 300 {
		b := make([]byte, 48)
		r.Read(b)
		common := new(big.Int).SetBytes(b[:1+r.Intn(16)])
		common.SetBit(common, 0, 1)
		x := new(big.Int).Mul(common, new(big.Int).SetBytes(b[16:32]))
		m := new(big.Int).Mul(common, new(big.Int).SetBit(new(big.Int).SetBytes(b[32:]), 0, 1))
		if m.Cmp(big.NewInt(3)) < 0 {
			continue
		}
		by := made(t, numOf(m))
		agreeInv(t, by, numOf(m), numOf(x))
		got, e := by.Inv(numOf(x))
		if common.Cmp(big.NewInt(1)) > 0 && (e != api.ErrArg || got != mont.Num{}) {
			t.Errorf("by %x: Inv(%x) = %x, error %d", m, x, got, e)
		}
	}
}

func TestNoModulus(t *testing.T) {
	for _, by := range []*mont.Mod{nil, new(mont.Mod)} {
		for _, a := range edgeNums() {
			b := mont.Num{5, 6, 7, 8}
			for i, got := range []mont.Num{by.Rest(a), by.Add(a, b), by.Sub(a, b), by.Mul(a, b), by.Pow(a, b), by.Pow(a, mont.Num{})} {
				if got != (mont.Num{}) {
					t.Errorf("call %d, of %x: %x", i, a, got)
				}
			}
			if got, e := by.Inv(a); e != api.ErrArg || got != (mont.Num{}) {
				t.Errorf("Inv(%x): %x, error %d", a, got, e)
			}
		}
	}
}

// A modulus stays what it was when it was made, whatever it is asked and whatever others are made.
func TestModuliAreApart(t *testing.T) {
	moduli := edgeModuli()
	handed := make([]mont.Num, len(moduli))
	copy(handed, moduli)
	var by []*mont.Mod
	for i := range handed {
		by = append(by, made(t, handed[i]))
		handed[i] = mont.Num{}
	}
	r := rand.New(rand.NewSource(4))
	for range 20 {
		a, b := anyNum(r), anyNum(r)
		kept, keptToo := a, b
		for i, m := range moduli {
			agree(t, by[i], m, a, b)
			agreePow(t, by[i], m, a, b)
			agreeInv(t, by[i], m, a)
		}
		if a != kept || b != keptToo {
			t.Fatal("a number that was handed in was changed")
		}
	}
}

func TestOneModulusAskedByMany(t *testing.T) {
	by := made(t, prime)
	var workers sync.WaitGroup
	for seed := range int64(8) {
		workers.Go(func() {
			r := rand.New(rand.NewSource(seed))
			for range 50 {
				a, b := anyNum(r), anyNum(r)
				agree(t, by, prime, a, b)
				agreePow(t, by, prime, a, b)
				agreeInv(t, by, prime, a)
			}
		})
	}
	workers.Wait()
}
