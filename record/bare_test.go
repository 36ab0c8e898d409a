package record_test

import (
	"bytes"
	"math/rand"
	"testing"

	"tollgate/api"
	"tollgate/record"
	"tollgate/sample"
)

func TestConstants(t *testing.T) {
	if record.Alert != 21 || record.Handshake != 22 || record.Data != 23 || record.MostUses != 1000 {
		t.Error("a kind's number, or how many may be sealed")
	}
}

func TestKnownRecords(t *testing.T) {
	b, e := record.Bare(22, []byte("ab"))
	if e != api.OK || !bytes.Equal(b, sample.Bytes(t, "16 03 03 00 02 61 62")) {
		t.Errorf("%x, error %d", b, e)
	}
	rec, rest, e := record.Cut(append(bytes.Clone(b), 7))
	if e != api.OK || !bytes.Equal(rec, b) || !bytes.Equal(rest, []byte{7}) {
		t.Errorf("%x and %x, error %d", rec, rest, e)
	}
	kind, body, e := record.Body(b)
	if e != api.OK || kind != 22 || string(body) != "ab" {
		t.Errorf("kind %d, %x, error %d", kind, body, e)
	}
}

func TestBareComesBack(t *testing.T) {
	for _, kind := range kinds() {
		for _, n := range []int{0, 1, 2, 5, 127, 128, 255, 256, 257, 511, 4096, most - 1, most} {
			b := sample.Filled(n, kind)
			rec, e := record.Bare(kind, b)
			if want := whole(kind, b); e != api.OK || !bytes.Equal(rec, want) {
				t.Errorf("kind %d, %d bytes: %.20x, not %.20x: error %d", kind, n, rec, want, e)
			}
			isCut(t, rec)
			isCut(t, append(bytes.Clone(rec), 0))
			isCut(t, append(bytes.Clone(rec), rec...))
		}
	}
}

func TestBareOfWrongKinds(t *testing.T) {
	for _, kind := range noKinds() {
		for _, n := range []int{0, 2, most, most + 1} {
			if b, e := record.Bare(kind, make([]byte, n)); e != api.ErrArg || len(b) > 0 {
				t.Errorf("kind %d, %d bytes: %d bytes, error %d", kind, n, len(b), e)
			}
		}
	}
}

func TestBareOfTooMuch(t *testing.T) {
	for _, kind := range kinds() {
		for _, n := range []int{most + 1, most + 2, mostBody, mostBody + 1, 65535, 65536, 65536 + 5, 1 << 20} {
			if b, e := record.Bare(kind, make([]byte, n)); e != api.ErrBig || len(b) > 0 {
				t.Errorf("kind %d, %d bytes: %d bytes, error %d", kind, n, len(b), e)
			}
		}
	}
}

// All beginnings of up to two bytes, and of the third and fourth byte all that there are.
func TestCutOfShortBytes(t *testing.T) {
	isCut(t, nil)
	isCut(t, []byte{})
	for i := range 256 {
		isCut(t, []byte{byte(i)})
		for j := range 256 {
			isCut(t, []byte{byte(i), byte(j)})
		}
		for _, kind := range []byte{20, 21, 22, 23, 24} {
			for _, v := range []byte{0, 2, 3, 4} {
				isCut(t, []byte{kind, v, byte(i)})
				isCut(t, []byte{kind, 3, v, byte(i)})
				isCut(t, []byte{kind, 3, v, byte(i), 0})
				isCut(t, []byte{kind, v, byte(i), 0, 0})
				isCut(t, []byte{byte(i), 3, v, 0, 1, 2})
			}
		}
	}
}

// Of four bytes the count isn't looked at; with the fifth it is.
func TestCutAtTheCount(t *testing.T) {
	for _, kind := range kinds() {
		for count := range 1 << 16 {
			b := put(kind, count, []byte{1, 2, 3})
			isCut(t, b)
			if count%256 == 0 {
				isCut(t, b[:4])
			}
		}
	}
}

// Records of all sizes about the edges: whole, with bytes behind, and cut short.
func TestCutOfEachSize(t *testing.T) {
	for _, kind := range kinds() {
		for _, n := range []int{0, 1, 2, 3, 255, 256, 257, most - 1, most, most + 1, most + 2, mostBody - 1, mostBody, mostBody + 1, 20000, 65535} {
			b := whole(kind, sample.Filled(n, 4))
			for _, behind := range []int{0, 1, 2, 5, 300, 70000} {
				isCut(t, append(bytes.Clone(b), sample.Filled(behind, 5)...))
			}
			for _, short := range []int{1, 2, n / 2, n - 1, n} {
				if short > 0 && short <= n {
					isCut(t, b[:len(b)-short])
				}
			}
		}
	}
}

func TestCutOfEachBeginning(t *testing.T) {
	for _, kind := range kinds() {
		b := whole(kind, sample.Filled(300, 6))
		for n := range b {
			isCut(t, b[:n])
			if _, _, e := record.Cut(b[:n]); e != api.ErrTail {
				t.Errorf("the first %d bytes: error %d", n, e)
			}
		}
	}
}

// Bytes of many records fall into these.
func TestCutOneByOne(t *testing.T) {
	var all []byte
	var want [][]byte
	for n := range 60 {
		rec, e := record.Bare(21+n%3, sample.Filled(n*n, n))
		if e != api.OK {
			t.Fatalf("%d bytes: error %d", n*n, e)
		}
		want = append(want, rec)
		all = append(all, rec...)
	}
	for i, w := range want {
		isCut(t, all)
		rec, rest, e := record.Cut(all)
		if e != api.OK || !bytes.Equal(rec, w) {
			t.Fatalf("the %d. record: %.20x, error %d", i, rec, e)
		}
		all = rest
	}
	if len(all) > 0 {
		t.Errorf("%d bytes are left", len(all))
	}
}

// A byte changed, left out, or added.
func TestCutOfChangedBytes(t *testing.T) {
	b := append(whole(22, sample.Filled(7, 1)), whole(23, nil)...)
	for i := range b {
		isCut(t, append(bytes.Clone(b[:i]), b[i+1:]...))
		for c := range 256 {
			changed := bytes.Clone(b)
			changed[i] = byte(c)
			isCut(t, changed)
			isCut(t, append(append(bytes.Clone(b[:i]), byte(c)), b[i:]...))
		}
	}
}

func TestCutOfAnyBytes(t *testing.T) {
	r := rand.New(rand.NewSource(3))
	for range 20000 {
		b := make([]byte, r.Intn(40))
		r.Read(b)
		for i, c := range []byte{byte(20 + r.Intn(5)), 3, 3, 0, byte(r.Intn(40))} {
			if i < len(b) && r.Intn(8) > 0 {
				b[i] = c
			}
		}
		isCut(t, b)
	}
}

// What stands behind a record is told ahead of what is too much in it.
func TestBodyErrorsInTurn(t *testing.T) {
	big := whole(22, make([]byte, most+1))
	isBody(t, big, api.ErrBig)
	isBody(t, append(bytes.Clone(big), 0), api.ErrForm)
	isBody(t, whole(22, make([]byte, mostBody)), api.ErrBig)
	isBody(t, whole(22, make([]byte, mostBody+1)), api.ErrBig)
	isBody(t, whole(22, make([]byte, most)), api.OK)
	isBody(t, append(whole(22, make([]byte, most)), 22), api.ErrForm)
	isBody(t, big[:len(big)-1], api.ErrTail)
	isBody(t, put(22, mostBody+1, nil), api.ErrBig)
	isBody(t, put(24, mostBody+1, nil), api.ErrForm)
	isBody(t, append(whole(22, []byte("ab")), whole(22, []byte("ab"))...), api.ErrForm)
	isBody(t, nil, api.ErrTail)
}
