package record_test

import (
	"bytes"
	"math"
	"math/rand"
	"testing"

	"tollgate/api"
	"tollgate/record"
	"tollgate/sample"
)

// Records of RFC 8448's first example: the client's first bytes, and how it takes its leave.
func TestKnownSealedRecords(t *testing.T) {
	secret := [32]byte(sample.Bytes(t, "9e40646ce79a7f9dc05af8889bce6552875afa0b06df0087f792ebb7c17504a5"))
	var plain []byte
	for i := range 50 {
		plain = append(plain, byte(i))
	}
	s, o := record.New(secret), record.New(secret)
	for i, c := range []struct {
		kind int
		b    []byte
		rec  string
	}{
		{record.Data, plain, "17 03 03 00 43 a2 3f 70 54 b6 2c 94 d0 af fa fe 82 28 ba 55 cb ef ac ea 42 f9 14 aa 66 bc ab 3f 2b 98 19 a8 a5 b4 6b 39 5b d5 4a 9a" +
			"20 44 1e 2b 62 97 4e 1f 5a 62 92 a2 97 70 14 bd 1e 3d ea e6 3a ee bb 21 69 49 15 e4"},
		{record.Alert, []byte{1, 0}, "17 03 03 00 13 c9 87 27 60 65 56 66 b7 4d 7f f1 15 3e fd 6d b6 d0 b0 e3"},
	} {
		want := sample.Bytes(t, c.rec)
		if got, e := s.Seal(c.kind, c.b, 0); e != api.OK || !bytes.Equal(got, want) {
			t.Errorf("%d: %x, not %x: error %d", i, got, want, e)
		}
		isOpened(t, o, want, c.kind, c.b)
	}
}

func TestSealedComesBack(t *testing.T) {
	for _, n := range []int{0, 1, 2, 15, 16, 17, 100, 255, 256, 1000} {
		for _, pad := range []int{0, 1, 2, 15, 16, 17, 200, 300} {
			secret := secretOf(n + pad)
			s, o := record.New(secret), record.New(secret)
			for i, kind := range kinds() {
				b := sample.Filled(n, pad+i)
				isSealed(t, s, secret, i, kind, b, pad)
				isOpened(t, o, sealedBy(t, secret, i, inner(b, kind, pad)), kind, b)
			}
		}
	}
}

// What is sealed may itself end with noughts, be noughts alone, or end as if it had a kind.
func TestSealedNoughts(t *testing.T) {
	secret := secretOf(2)
	s, o := record.New(secret), record.New(secret)
	n := 0
	for _, b := range [][]byte{{0}, {0, 0, 0}, {1, 0}, {22}, {23, 0, 0}, {0, 21}, make([]byte, 500), nil, {}} {
		for _, kind := range kinds() {
			for _, pad := range []int{0, 1, 40} {
				isSealed(t, s, secret, n, kind, b, pad)
				isOpened(t, o, sealedBy(t, secret, n, inner(b, kind, pad)), kind, b)
				n++
			}
		}
	}
}

func TestSealOfMost(t *testing.T) {
	secret := secretOf(3)
	s, o := record.New(secret), record.New(secret)
	n := 0
	for _, c := range []struct{ size, pad int }{{most, 0}, {most - 1, 1}, {most - 1, 0}, {0, most}, {1, most - 1}, {16000, 384}, {384, 16000}} {
		for _, kind := range kinds() {
			b := sample.Filled(c.size, kind)
			isSealed(t, s, secret, n, kind, b, c.pad)
			isOpened(t, o, sealedBy(t, secret, n, inner(b, kind, c.pad)), kind, b)
			n++
		}
	}
}

func TestSealOfTooMuch(t *testing.T) {
	s := record.New(secretOf(4))
	for _, kind := range kinds() {
		for _, c := range []struct{ size, pad int }{
			{most + 1, 0}, {most, 1}, {most - 1, 2}, {0, most + 1}, {1, most}, {16000, 385}, {385, 16000}, {most, 255}, {most + 1, 1}, {mostBody, 0},
			{0, mostBody}, {65536, 0}, {0, 65536}, {1 << 20, 0}, {most, 1 << 20}, {0, math.MaxInt32}, {0, math.MaxInt}, {1, math.MaxInt}, {2, math.MaxInt - 1},
			{most, math.MaxInt}, {most, math.MaxInt - most}, {most, math.MaxInt - most + 1},
		} {
			isNotSealed(t, s, kind, make([]byte, c.size), c.pad, api.ErrBig)
		}
	}
	isSealed(t, s, secretOf(4), 0, 22, []byte("ab"), 0)
}

// A wrong kind, or pad, is told ahead of all else.
func TestSealOfWrongArguments(t *testing.T) {
	s, spent := record.New(secretOf(5)), sealer(t, secretOf(5), record.MostUses)
	for _, h := range []*record.Half{s, spent} {
		for _, n := range []int{0, 1, most, most + 1} {
			for _, pad := range []int{-1, -2, -most, math.MinInt, math.MinInt + 1} {
				for _, kind := range kinds() {
					isNotSealed(t, h, kind, make([]byte, n), pad, api.ErrArg)
				}
			}
			for _, kind := range noKinds() {
				for _, pad := range []int{0, 1, -1, most + 1} {
					isNotSealed(t, h, kind, make([]byte, n), pad, api.ErrArg)
				}
			}
		}
	}
	isSealed(t, s, secretOf(5), 0, 22, []byte("ab"), 0)
}

// 1000 records and one more: each has its own number, and then there is none.
func TestSealAsManyAsMayBe(t *testing.T) {
	secret := secretOf(6)
	s := record.New(secret)
	isUsed(t, s, 0)
	for n := range 1000 {
		isSealed(t, s, secret, n, 21+n%3, sample.Filled(n%7, n), n%5)
	}
	for _, kind := range kinds() {
		for range 3 {
			isNotSealed(t, s, kind, []byte("ab"), 0, api.ErrSeq)
		}
		isNotSealed(t, s, kind, nil, 0, api.ErrSeq)
		isNotSealed(t, s, kind, make([]byte, most), 0, api.ErrSeq)
		isNotSealed(t, s, kind, make([]byte, most+1), 0, api.ErrBig)
		isNotSealed(t, s, kind, nil, most+1, api.ErrBig)
	}
	isUsed(t, s, 1000)
}

func TestOpenAsManyAsMayBe(t *testing.T) {
	secret := secretOf(7)
	o := record.New(secret)
	isUsed(t, o, 0)
	for n := range 1000 {
		b := sample.Filled(n%7, n)
		isOpened(t, o, sealedBy(t, secret, n, inner(b, 21+n%3, n%5)), 21+n%3, b)
	}
	next := sealedBy(t, secret, 1000, inner(nil, 22, 0))
	for range 3 {
		isRefused(t, o, next, api.ErrSeq, "one more")
	}
	isRefused(t, o, sealedBy(t, secret, 0, inner(nil, 22, 0)), api.ErrSeq, "the first one again")
	isRefused(t, o, whole(23, nil), api.ErrSeq, "nothing sealed")
	isRefused(t, o, whole(23, make([]byte, 40)), api.ErrSeq, "noughts")
	isRefused(t, o, append(bytes.Clone(next), 0), api.ErrForm, "a byte behind")
	isRefused(t, o, whole(22, next[5:]), api.ErrForm, "another kind")
	isRefused(t, o, next[:len(next)-1], api.ErrTail, "a byte left out")
	isRefused(t, o, nil, api.ErrTail, "nothing")
	isRefused(t, o, put(23, mostBody+1, nil), api.ErrBig, "too much")
	isUsed(t, o, 1000)
}

// What was refused isn't counted, sealing or opening: all 1000 may still come.
func TestRefusedAreNotCounted(t *testing.T) {
	secret := secretOf(8)
	s, o := record.New(secret), record.New(secret)
	other := record.New(secretOf(9))
	for n := range 1000 {
		isNotSealed(t, s, 24, nil, 0, api.ErrArg)
		isNotSealed(t, s, 22, nil, most+1, api.ErrBig)
		wrong, _ := other.Seal(22, nil, 0)
		isRefused(t, o, wrong, api.ErrMac, "by another secret")
		isRefused(t, o, nil, api.ErrTail, "nothing")
		rec, e := s.Seal(22, []byte{byte(n)}, 0)
		if e != api.OK {
			t.Fatalf("the %d. record: error %d", n, e)
		}
		isOpened(t, o, rec, 22, []byte{byte(n)})
	}
	isNotSealed(t, s, 22, nil, 0, api.ErrSeq)
}

func TestOpenErrorsOfCut(t *testing.T) {
	secret := secretOf(10)
	rec := sealedBy(t, secret, 0, inner([]byte("ab"), 22, 3))
	o := record.New(secret)
	for n := range rec {
		isRefused(t, o, rec[:n], api.ErrTail, "a beginning")
	}
	for i := range 3 {
		for c := range 256 {
			changed := bytes.Clone(rec)
			changed[i] = byte(c)
			if byte(c) != rec[i] {
				isRefused(t, o, changed, api.ErrForm, "another head")
			}
		}
	}
	for _, count := range []int{mostBody + 1, 0x7FFF, 0x8000, 0xFFFF} {
		isRefused(t, o, put(23, count, rec[5:]), api.ErrBig, "a great count")
		isRefused(t, o, whole(23, make([]byte, count)), api.ErrBig, "a great record")
	}
	isRefused(t, o, put(23, len(rec)-4, rec[5:]), api.ErrTail, "a count one too high")
	isRefused(t, o, put(23, len(rec)-6, rec[5:]), api.ErrForm, "a count one too low")
	isRefused(t, o, append(bytes.Clone(rec), 0), api.ErrForm, "a byte behind")
	isRefused(t, o, append(bytes.Clone(rec), rec...), api.ErrForm, "two of them")
	isRefused(t, o, append(bytes.Clone(rec), 1, 2, 3, 4, 5, 6), api.ErrForm, "no record behind")
	isOpened(t, o, rec, 22, []byte("ab"))
}

// A bare record isn't opened, nor one that was sealed as of another kind.
func TestOpenOfBareRecords(t *testing.T) {
	secret := secretOf(11)
	rec := sealedBy(t, secret, 0, inner([]byte("ab"), 22, 3))
	o := record.New(secret)
	for _, kind := range []int{21, 22} {
		isRefused(t, o, whole(kind, rec[5:]), api.ErrForm, "another kind outside")
		isRefused(t, o, whole(kind, []byte("ab")), api.ErrForm, "a bare record")
		isRefused(t, o, whole(kind, nil), api.ErrForm, "an empty record")
	}
	for n := range 40 {
		isRefused(t, o, whole(23, sample.Filled(n, 1)), api.ErrMac, "not sealed")
		isRefused(t, o, whole(23, make([]byte, n)), api.ErrMac, "noughts")
	}
	for _, n := range []int{most, most + 17, mostBody} {
		isRefused(t, o, whole(23, sample.Filled(n, 1)), api.ErrMac, "not sealed")
	}
	isOpened(t, o, rec, 22, []byte("ab"))
}

// Each bit of what is sealed changed; each byte left out, or one added, with the count that it has then.
func TestOpenOfChangedRecords(t *testing.T) {
	secret := secretOf(12)
	for _, n := range []int{0, 1, 30} {
		o := record.New(secret)
		b := sample.Filled(n, 3)
		rec := sealedBy(t, secret, 0, inner(b, 22, 2))
		for i := 5; i < len(rec); i++ {
			for bit := range 8 {
				changed := bytes.Clone(rec)
				changed[i] ^= 1 << bit
				isRefused(t, o, changed, api.ErrMac, "a bit changed")
			}
			less := append(bytes.Clone(rec[5:i]), rec[i+1:]...)
			isRefused(t, o, whole(23, less), api.ErrMac, "a byte left out")
			more := append(append(bytes.Clone(rec[5:i]), 0), rec[i:]...)
			isRefused(t, o, whole(23, more), api.ErrMac, "a byte added")
		}
		isOpened(t, o, rec, 22, b)
	}
}

// The count is marked too: what is sealed beside another isn't opened.
func TestOpenLooksAtTheHead(t *testing.T) {
	o := record.New(secretOf(13))
	isRefused(t, o, whole(23, sealedBeside(t, secretOf(13), nil)), api.ErrMac, "beside nothing")
	isRefused(t, o, whole(23, sealedBeside(t, secretOf(13), []byte{23, 3, 3, 0, 4})), api.ErrMac, "beside the count of what is hidden")
	isRefused(t, o, whole(23, sealedBeside(t, secretOf(13), []byte{22, 3, 3, 0, 20})), api.ErrMac, "beside another kind")
	isRefused(t, o, whole(23, sealedBeside(t, secretOf(13), []byte{23, 3, 1, 0, 20})), api.ErrMac, "beside another version")
	isOpened(t, o, whole(23, sealedBeside(t, secretOf(13), []byte{23, 3, 3, 0, 20})), 22, []byte("abc"))
}

// The noughts don't count, but for what a record holds at all.
func TestOpenOfMost(t *testing.T) {
	secret := secretOf(14)
	o := record.New(secret)
	n := 0
	for _, size := range []int{0, 1, most - 1, most, most + 1, most + 2, mostBody - extra - 1} {
		for _, pad := range []int{0, 1, 2, 100, mostBody - extra - 1 - size} {
			if pad < 0 || size+1+pad > mostBody-extra {
				continue
			}
			b := sample.Filled(size, n)
			rec := sealedBy(t, secret, n, inner(b, 23, pad))
			if size > most {
				isWrongWithin(t, o, rec, api.ErrBig, "too much within")
			} else {
				isOpened(t, o, rec, 23, b)
			}
			n++
		}
	}
}

func TestOpenOfNoughtsAlone(t *testing.T) {
	secret := secretOf(15)
	o := record.New(secret)
	for i, n := range []int{0, 1, 2, 3, 16, 100, most, most + 1, most + 2, mostBody - extra} {
		isWrongWithin(t, o, sealedBy(t, secret, i, make([]byte, n)), api.ErrForm, "noughts alone")
	}
	isOpened(t, o, sealedBy(t, secret, 10, inner([]byte("ab"), 22, 0)), 22, []byte("ab"))
}

// The last byte that isn't nought is the kind, or there is none.
func TestOpenOfEachKind(t *testing.T) {
	secret := secretOf(16)
	o := record.New(secret)
	n := 0
	for kind := 1; kind < 256; kind++ {
		for _, pad := range []int{0, 3} {
			rec := sealedBy(t, secret, n, inner([]byte{22, 23}, kind, pad))
			if kind >= 21 && kind <= 23 {
				isOpened(t, o, rec, kind, []byte{22, 23})
			} else {
				isWrongWithin(t, o, rec, api.ErrForm, "no kind")
			}
			n++
		}
	}
	// That there is no kind is told ahead of what is too much.
	isWrongWithin(t, o, sealedBy(t, secret, n, inner(make([]byte, most+1), 24, 0)), api.ErrForm, "too much of no kind")
	isWrongWithin(t, o, sealedBy(t, secret, n+1, inner(sample.Filled(most+9, 1), 20, 5)), api.ErrForm, "too much of no kind")
	isWrongWithin(t, o, sealedBy(t, secret, n+2, inner(make([]byte, most+1), 22, 0)), api.ErrBig, "too much of a kind")
}

// What was wrong within has its number; it never comes again.
func TestWrongWithinIsUsed(t *testing.T) {
	secret := secretOf(17)
	for what, c := range map[string]struct {
		inner []byte
		e     api.Errno
	}{"noughts": {make([]byte, 5), api.ErrForm}, "nothing": {nil, api.ErrForm}, "no kind": {[]byte{22, 24}, api.ErrForm},
		"too much": {inner(make([]byte, most+1), 22, 0), api.ErrBig}} {
		o := opener(t, secret, 2)
		rec := sealedBy(t, secret, 2, c.inner)
		isWrongWithin(t, o, rec, c.e, what)
		isRefused(t, o, rec, api.ErrMac, what+" again")
		isRefused(t, o, sealedBy(t, secret, 2, inner(nil, 22, 0)), api.ErrMac, "another with its number")
		isOpened(t, o, sealedBy(t, secret, 3, inner([]byte("ab"), 22, 0)), 22, []byte("ab"))
	}
}

// Nor does it let one more be opened.
func TestWrongWithinCounts(t *testing.T) {
	secret := secretOf(25)
	o := opener(t, secret, 999)
	isWrongWithin(t, o, sealedBy(t, secret, 999, nil), api.ErrForm, "the last one that may come")
	isRefused(t, o, sealedBy(t, secret, 1000, inner([]byte("ab"), 22, 0)), api.ErrSeq, "one more")
}

// Records in another order, or twice.
func TestOpenInOrderAlone(t *testing.T) {
	secret := secretOf(18)
	var recs [][]byte
	for i := range 6 {
		// All hold the same, so that their numbers alone tell them apart.
		recs = append(recs, sealedBy(t, secret, i, inner([]byte("ab"), 22, 0)))
	}
	o := record.New(secret)
	for next := range recs {
		for i, rec := range recs {
			if i != next {
				isRefused(t, o, rec, api.ErrMac, "out of its turn")
			}
		}
		isOpened(t, o, recs[next], 22, []byte("ab"))
	}
	for _, rec := range recs {
		isRefused(t, o, rec, api.ErrMac, "a second time")
	}
}

// About where the number takes a second byte, none of the others is opened.
func TestNumbersOfTwoBytes(t *testing.T) {
	secret := secretOf(19)
	o := opener(t, secret, 250)
	for n := 250; n < 262; n++ {
		for other := range 1000 {
			near := other%256 == n%256 || other/256 == n%256 || other%16 == n%16
			if near && other != n {
				isRefused(t, o, sealedBy(t, secret, other, inner([]byte("ab"), 22, 0)), api.ErrMac, "out of its turn")
			}
		}
		isOpened(t, o, sealedBy(t, secret, n, inner([]byte("ab"), 22, 0)), 22, []byte("ab"))
	}
}

func TestNumbersDoNotComeAgain(t *testing.T) {
	s := record.New(secretOf(20))
	seen := map[string]int{}
	for n := range 1000 {
		rec, e := s.Seal(22, []byte("ab"), 0)
		if e != api.OK {
			t.Fatalf("the %d. record: error %d", n, e)
		}
		if at, ok := seen[string(rec)]; ok {
			t.Errorf("the %d. record is the %d. again", n, at)
		}
		seen[string(rec)] = n
	}
}

// What comes by chance: right records, others' and changed ones; each answer is reckoned from which one is next.
func TestOpenOfWhatComes(t *testing.T) {
	r := rand.New(rand.NewSource(5))
	secret := secretOf(21)
	o := record.New(secret)
	for next := 0; next < 300; {
		n := max(0, next+r.Intn(4)-1)
		b := sample.Filled(r.Intn(20), n)
		rec := sealedBy(t, secret, n, inner(b, 21+r.Intn(3), r.Intn(4)))
		want := api.ErrMac
		if n == next {
			want = api.OK
		}
		if r.Intn(4) == 0 {
			rec[5+r.Intn(len(rec)-5)] ^= byte(1 + r.Intn(255))
			want = api.ErrMac
		}
		_, got, e := o.Open(rec)
		if e != want || e == api.OK && !bytes.Equal(got, b) {
			t.Fatalf("the %d. record, where the %d. is next: error %d, not %d", n, next, e, want)
		}
		if e == api.OK {
			next++
		}
		isUsed(t, o, next)
	}
}

// Each half has its own secret and its own number.
func TestHalvesByThemselves(t *testing.T) {
	a, b, again := secretOf(22), secretOf(23), record.New(secretOf(22))
	x, y := record.New(a), record.New(b)
	for n := range 5 {
		isSealed(t, x, a, n, 22, []byte("ab"), 0)
	}
	isUsed(t, y, 0)
	isSealed(t, y, b, 0, 22, []byte("ab"), 0)
	isSealed(t, again, a, 0, 23, []byte("cd"), 1)
	isSealed(t, x, a, 5, 22, []byte("ab"), 0)
	for i := range 32 {
		other := a
		other[i] ^= 1
		isRefused(t, record.New(other), sealedBy(t, a, 0, inner([]byte("ab"), 22, 0)), api.ErrMac, "a secret with a bit changed")
	}
	for _, secret := range [][32]byte{{}, [32]byte(bytes.Repeat([]byte{0xFF}, 32))} {
		isSealed(t, record.New(secret), secret, 0, 22, []byte("ab"), 2)
	}
}

func TestNilHalf(t *testing.T) {
	var h *record.Half
	isUsed(t, h, 0)
	for _, kind := range append(noKinds(), kinds()...) {
		for _, n := range []int{0, 1, most, most + 1} {
			for _, pad := range []int{0, 1, -1, most + 1, math.MaxInt, math.MinInt} {
				isNotSealed(t, h, kind, make([]byte, n), pad, api.ErrArg)
			}
		}
	}
	rec := sealedBy(t, secretOf(24), 0, inner([]byte("ab"), 22, 0))
	for _, b := range [][]byte{nil, {}, {24}, {23}, rec, rec[:9], append(bytes.Clone(rec), 1), put(23, mostBody+1, nil), whole(22, []byte("ab"))} {
		isRefused(t, h, b, api.ErrArg, "a nil half")
	}
	isUsed(t, h, 0)
}
