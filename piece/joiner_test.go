package piece_test

import (
	"bytes"
	"math/rand"
	"testing"

	"tollgate/api"
	"tollgate/piece"
	"tollgate/sample"
)

func TestNilJoiner(t *testing.T) {
	var j *piece.Joiner
	for _, b := range [][]byte{nil, {}, {0}, {0x20}, {0x80}, put(0x80, most+1), put(0, 0, 1), make([]byte, most+2)} {
		if flight, whole, e := j.Take(b); e != api.ErrArg || whole || len(flight) > 0 {
			t.Errorf("%.20x: %x, %t, error %d", b, flight, whole, e)
		}
	}
	if n := j.Waits(); n != 0 {
		t.Errorf("%d wait", n)
	}
}

func TestNewWaitsForNothing(t *testing.T) {
	if n := piece.New().Waits(); n != 0 {
		t.Errorf("%d wait", n)
	}
}

// All flags, ahead of all small counts of bytes: of a first piece, and of one behind others.
func TestTakeOfAllFlags(t *testing.T) {
	for flags := range 256 {
		for n := range 12 {
			for _, b := range [][]byte{append([]byte{byte(flags)}, make([]byte, n)...), append([]byte{byte(flags), 0, 0, 0, byte(n)}, filled(n)...), append([]byte{byte(flags), 0, 0, 0, byte(n + 1)}, filled(n)...), append([]byte{byte(flags)}, filled(n)...)} {
				newBoth().take(t, b)
				for ahead := range 4 {
					o := newBoth()
					o.takeAs(t, put(0xC0, 10, filled(7)...), api.OK)
					for range ahead {
						o.takeAs(t, put(0x40, 0, 9), api.OK)
					}
					o.take(t, b)
					o.take(t, put(0, 0, 1))
				}
			}
		}
	}
}

// Pieces of each kind in each order, four at a time.
func TestTakeInAllOrders(t *testing.T) {
	all := [][]byte{nil, {0}, {0x40}, {0x20}, {0x80, 0, 0}, {0xC0}, put(0, 0, 1), put(0, 0, 1, 2), put(0x40, 0, 3), put(0x40, 0, 4, 5), put(0x80, 0), put(0x80, 1, 6), put(0x80, 2, 6),
		put(0xC0, 0), put(0xC0, 2, 7), put(0xC0, 2, 8, 9), put(0xC0, 3, 10, 11), put(0xC0, 3, 12), put(0xC0, 1, 13, 14), put(0xC0, 2), put(0x80, most+1), put(0xC0, most+1, 1), put(0xC0, most, 1)}
	for _, a := range all {
		for _, b := range all {
			for _, c := range all {
				for _, d := range all {
					o := newBoth()
					for _, p := range [][]byte{a, b, c, d, {0}} {
						o.take(t, p)
					}
				}
			}
		}
	}
}

func TestTakeOfOnePiece(t *testing.T) {
	for _, n := range []int{0, 1, 2, 20, 300, 4000, 5000, most - 1, most} {
		for _, b := range [][]byte{put(0, 0, filled(n)...), put(0x80, n, filled(n)...)} {
			o := newBoth()
			o.takeAs(t, b, api.OK)
			isJoined(t, piece.New(), [][]byte{b}, filled(n))
		}
		for _, wrong := range []int{0, n - 1, n + 1, most} {
			if wrong >= 0 && wrong != n && wrong <= most {
				newBoth().takeAs(t, put(0x80, wrong, filled(n)...), api.ErrForm)
			}
		}
	}
}

// Without L the count is that of the one piece.
func TestTakeAtTheMost(t *testing.T) {
	for _, n := range []int{most + 1, most + 2, 1 << 16, 1<<16 + 1, 1 << 20} {
		newBoth().takeAs(t, put(0, 0, make([]byte, n)...), api.ErrBig)
		newBoth().takeAs(t, put(0x80, n, make([]byte, n)...), api.ErrBig)
		newBoth().takeAs(t, put(0xC0, n, make([]byte, n)...), api.ErrBig)
		newBoth().takeAs(t, put(0x40, n, make([]byte, n)...), api.ErrForm)
		newBoth().takeAs(t, put(0x80, most, make([]byte, n)...), api.ErrForm)
		newBoth().takeAs(t, put(0xC0, most, make([]byte, n)...), api.ErrForm)
		o := newBoth()
		o.takeAs(t, put(0xC0, most, 1), api.OK)
		o.takeAs(t, put(0, 0, make([]byte, n)...), api.ErrForm)
	}
}

// Counts of which each byte counts, with nothing behind, and with something.
func TestTakeOfCounts(t *testing.T) {
	for _, count := range []int{most + 1, most + 2, 1<<16 - 1, 1 << 16, 1<<16 + 2, 1 << 24, 1<<24 + 2, 1<<31 - 1, 1 << 31, 1<<31 + 2, 1<<32 - 2, 1<<32 - 1} {
		for _, n := range []int{0, 1, 2, 3} {
			newBoth().takeAs(t, put(0x80, count, filled(n)...), api.ErrBig)
			newBoth().takeAs(t, put(0xC0, count, filled(n)...), api.ErrBig)
			newBoth().takeAs(t, put(0xA0, count, filled(n)...), api.ErrForm)
		}
	}
	for _, count := range []int{1, 2, 255, 256, 257, 1<<15 - 1, most} {
		o := newBoth()
		o.takeAs(t, put(0xC0, count, 1), api.OK)
		o.takeAs(t, put(0, 0, filled(count-1)...), api.OK)
		o.takeAs(t, put(0xC0, count, 1), api.OK)
		o.takeAs(t, put(0, 0, filled(count)...), api.ErrForm)
		if count > 1 {
			o.takeAs(t, put(0xC0, count, 1), api.OK)
			o.takeAs(t, put(0, 0, filled(count-2)...), api.ErrForm)
		}
	}
}

func TestTakeErrorsInTurn(t *testing.T) {
	for _, first := range []bool{true, false} {
		take := func(b []byte, want api.Errno) {
			t.Helper()
			o := newBoth()
			if !first {
				o.takeAs(t, put(0xC0, 4, 1, 2), api.OK)
			}
			o.takeAs(t, b, want)
		}
		take(nil, api.ErrTail)
		take([]byte{}, api.ErrTail)
		for n := range 4 {
			for _, flags := range []byte{0x80, 0xC0, 0xA0, 0xE0, 0x81, 0xFF} {
				take(append([]byte{flags}, bytes.Repeat([]byte{0xFF}, n)...), api.ErrTail)
			}
		}
		for bit := range 6 {
			for _, flags := range []byte{0, 0x40, 0x80, 0xC0} {
				take(put(flags|1<<bit, most+1, 3, 4), api.ErrForm)
				take(put(flags|1<<bit, 2, 3, 4), api.ErrForm)
				take(put(flags|1<<bit, 4, 3, 4), api.ErrForm)
			}
		}
		take(piece.Start(), api.ErrForm)
	}
	// L on a piece that isn't the first is told ahead of its count.
	for _, count := range []int{0, 1, 2, 4, most, most + 1} {
		for _, flags := range []byte{0x80, 0xC0} {
			o := newBoth()
			o.takeAs(t, put(0xC0, 4, 1, 2), api.OK)
			o.takeAs(t, put(flags, count, 3, 4), api.ErrForm)
		}
	}
	// A count that is too big is told ahead of what is there.
	newBoth().takeAs(t, put(0xC0, most+1), api.ErrBig)
	newBoth().takeAs(t, put(0x80, most+1), api.ErrBig)
	newBoth().takeAs(t, put(0xC0, most), api.ErrForm)
	newBoth().takeAs(t, put(0xC0, 0), api.ErrForm)
	newBoth().takeAs(t, put(0x80, 0), api.OK)
	newBoth().takeAs(t, put(0x40, 0), api.ErrForm)
	newBoth().takeAs(t, put(0x40, 0, 1), api.ErrForm)
}

// More pieces follow till one says that none does: even if all bytes are there.
func TestTakeTillNoMoreFollow(t *testing.T) {
	o := newBoth()
	o.takeAs(t, put(0xC0, 2, 1, 2), api.OK)
	if o.j.Waits() != 2 {
		t.Errorf("%d wait", o.j.Waits())
	}
	if flight, whole, e := o.j.Take([]byte{0}); e != api.OK || !whole || !bytes.Equal(flight, []byte{1, 2}) {
		t.Errorf("%x, %t, error %d", flight, whole, e)
	}
	for _, b := range [][]byte{{0x40}, put(0x40, 0, 3), put(0, 0, 3)} {
		o := newBoth()
		o.takeAs(t, put(0xC0, 2, 1, 2), api.OK)
		o.takeAs(t, b, api.ErrForm)
	}
}

// wrongPieces are those that no place has room for, each with its error.
func wrongPieces() map[string]api.Errno {
	return map[string]api.Errno{"": api.ErrTail, "\x80\x00\x00\x00": api.ErrTail, "\x20": api.ErrForm, "\x40": api.ErrForm, "\x01a": api.ErrForm, string(put(0x80, 1)): api.ErrForm}
}

// Beside an error it begins anew: what was there is gone, and the next flight goes through, by L and without.
func TestTakeBeginsAnew(t *testing.T) {
	flight := filled(90)
	all := piecesOf(flight, 20)
	for wrong, e := range wrongPieces() {
		for n := range all {
			o := newBoth()
			for range 3 {
				for _, p := range all[:n] {
					o.takeAs(t, p, api.OK)
				}
				o.takeAs(t, []byte(wrong), e)
				isJoined(t, o.j, all, flight)
				o.takeAs(t, put(0, 0, flight...), api.OK)
				o.takeAs(t, []byte(wrong), e)
			}
			for _, p := range all[:n] {
				o.takeAs(t, p, api.OK)
			}
			o.takeAs(t, []byte(wrong), e)
			// What would have been the next one is a first one now.
			if n > 0 {
				if e := o.take(t, all[n]); n < len(all)-1 && e != api.ErrForm {
					t.Errorf("the %d. piece behind a wrong one: error %d", n, e)
				}
			}
		}
	}
}

// A piece lost, doubled, or turned round.
func TestTakeOfPiecesAstray(t *testing.T) {
	for _, size := range []int{16, 20, 50} {
		all := piecesOf(filled(150), size)
		for i := range all {
			lost, doubled, turned := newBoth(), newBoth(), newBoth()
			for k, p := range all {
				if k != i {
					lost.take(t, p)
				}
				doubled.take(t, p)
				if k == i {
					doubled.take(t, p)
				}
				turned.take(t, all[(k+i)%len(all)])
			}
			for _, o := range []*both{lost, doubled, turned} {
				o.take(t, []byte{})
				isJoined(t, o.j, all, filled(150))
			}
		}
	}
}

func TestJoinersAreApart(t *testing.T) {
	a, b := newBoth(), newBoth()
	first, second := piecesOf(sample.Filled(100, 1), 16), piecesOf(sample.Filled(100, 2), 16)
	for i := range first {
		a.takeAs(t, first[i], api.OK)
		b.takeAs(t, second[i], api.OK)
	}
}

func TestWaitsAtTheMost(t *testing.T) {
	o := newBoth()
	o.takeAs(t, put(0xC0, most, 0), api.OK)
	for o.j.Waits() < most {
		o.takeAs(t, put(0x40, 0, filled(min(1021, most-o.j.Waits()))...), api.OK)
	}
	o.takeAs(t, []byte{0}, api.OK)
	o = newBoth()
	o.takeAs(t, put(0xC0, most, filled(most)...), api.OK)
	o.takeAs(t, put(0x40, 0, 1), api.ErrForm)
	// One byte a piece.
	for i := range most {
		if i == 0 {
			o.j.Take(put(0xC0, most, 7))
		} else {
			o.j.Take(put(0x40, 0, 7))
		}
		if o.j.Waits() != i+1 {
			t.Fatalf("%d wait, not %d", o.j.Waits(), i+1)
		}
	}
	if flight, whole, e := o.j.Take([]byte{0}); e != api.OK || !whole || !bytes.Equal(flight, bytes.Repeat([]byte{7}, most)) {
		t.Errorf("%d bytes, %t, error %d", len(flight), whole, e)
	}
}

func TestTakeOfAnyBytes(t *testing.T) {
	r := rand.New(rand.NewSource(7))
	for range 300 {
		o := newBoth()
		for range 200 {
			flags := []byte{0, 0x40, 0x40, 0x40, 0x80, 0xC0, byte(r.Intn(256))}[r.Intn(7)]
			held := make([]byte, r.Intn(9))
			r.Read(held)
			count := []int{len(held), r.Intn(30), r.Intn(3000), most, most + r.Intn(2), r.Intn(1 << 32)}[r.Intn(6)]
			b := put(flags, count, held...)
			if r.Intn(10) == 0 {
				b = b[:r.Intn(len(b)+1)]
			}
			o.take(t, b)
			if left := o.w.count - o.w.waits(); o.w.waits() > 0 && left < 30 && r.Intn(3) == 0 {
				o.take(t, put(0, 0, filled(left)...))
			}
		}
	}
}
