package piece_test

import (
	"bytes"
	"slices"
	"testing"

	"tollgate/api"
	"tollgate/piece"
	"tollgate/sample"
)

// The document's own numbers.
const (
	most      = 32768 // bytes of a flight
	leastSize = 16
	mostSize  = 4000
)

// piecesOf is what Split must answer, by the document's words.
func piecesOf(flight []byte, size int) [][]byte {
	if len(flight)+1 <= size {
		return [][]byte{slices.Concat([]byte{0}, flight)}
	}
	n := len(flight)
	all := [][]byte{slices.Concat([]byte{0xC0, byte(n >> 24), byte(n >> 16), byte(n >> 8), byte(n)}, flight[:size-5])}
	for at := size - 5; at < n; at += size - 1 {
		if n-at <= size-1 {
			all = append(all, slices.Concat([]byte{0}, flight[at:]))
		} else {
			all = append(all, slices.Concat([]byte{0x40}, flight[at:at+size-1]))
		}
	}
	return all
}

func samePieces(a, b [][]byte) bool { return slices.EqualFunc(a, b, bytes.Equal) }

// isSplit holds what Split answers against the document's words, and puts it together again.
func isSplit(t *testing.T, flight []byte, size int) {
	t.Helper()
	all, e := piece.Split(flight, size)
	want := api.OK
	switch {
	case size < leastSize || size > mostSize:
		want = api.ErrArg
	case len(flight) > most:
		want = api.ErrBig
	}
	if e != want || e != api.OK && len(all) > 0 {
		t.Fatalf("%d bytes by %d: %d pieces, error %d, not %d", len(flight), size, len(all), e, want)
	}
	if e != api.OK {
		return
	}
	if !samePieces(all, piecesOf(flight, size)) {
		t.Errorf("%d bytes by %d: %d pieces, %.80x", len(flight), size, len(all), all)
	}
	for i, p := range all {
		if len(p) > size || i < len(all)-1 && len(p) < size {
			t.Errorf("%d bytes by %d: the %d. piece has %d bytes", len(flight), size, i, len(p))
		}
	}
	isJoined(t, piece.New(), all, flight)
}

// isJoined hands the pieces of a flight to j, one by one.
func isJoined(t *testing.T, j *piece.Joiner, all [][]byte, flight []byte) {
	t.Helper()
	waits := 0
	for i, p := range all {
		got, whole, e := j.Take(p)
		if i == len(all)-1 {
			if e != api.OK || !whole || !bytes.Equal(got, flight) || j.Waits() != 0 {
				t.Errorf("the last of %d pieces: %d bytes, not %d: %t, error %d, %d wait", len(all), len(got), len(flight), whole, e, j.Waits())
			}
			return
		}
		waits += len(p) - 1
		if i == 0 {
			waits -= 4
		}
		if e != api.OK || whole || len(got) > 0 || j.Waits() != waits {
			t.Fatalf("the %d. of %d pieces: %d bytes, %t, error %d, %d wait, not %d", i, len(all), len(got), whole, e, j.Waits(), waits)
		}
	}
}

// words is what a Joiner must be, by the document's words.
type words struct {
	taken [][]byte // what the pieces held that came since it began anew
	count int
}

func (w *words) waits() int { return len(slices.Concat(w.taken...)) }

func (w *words) take(b []byte) (flight []byte, whole bool, e api.Errno) {
	e = w.put(b)
	if e != api.OK {
		*w = words{}
		return nil, false, e
	}
	if b[0]&0x40 != 0 {
		return nil, false, api.OK
	}
	flight = slices.Concat(w.taken...)
	*w = words{}
	return flight, true, api.OK
}

func (w *words) put(b []byte) api.Errno {
	if len(b) == 0 || b[0] >= 0x80 && len(b) < 5 {
		return api.ErrTail
	}
	l, m, first := b[0]&0x80 != 0, b[0]&0x40 != 0, len(w.taken) == 0
	if b[0]%0x40 != 0 || l && !first || first && m && !l {
		return api.ErrForm
	}
	held := b[1:]
	if l {
		held = b[5:]
	}
	count := w.count
	if first && l {
		count = ((int(b[1])*256+int(b[2]))*256+int(b[3]))*256 + int(b[4])
	} else if first {
		count = len(held)
	}
	if count > most {
		return api.ErrBig
	}
	if there := w.waits() + len(held); there > count || there < count && !m || m && len(held) == 0 {
		return api.ErrForm
	}
	w.taken, w.count = append(w.taken, held), count
	return api.OK
}

// both are a Joiner, and what it must be.
type both struct {
	j *piece.Joiner
	w words
}

func newBoth() *both { return &both{j: piece.New()} }

// take hands b to both, holds the answers against each other, and answers the error.
func (o *both) take(t *testing.T, b []byte) api.Errno {
	t.Helper()
	flight, whole, e := o.j.Take(b)
	want, wantWhole, wantE := o.w.take(b)
	if e != wantE || whole != wantWhole || !bytes.Equal(flight, want) {
		t.Errorf("%.20x (%d bytes): %d bytes, %t, error %d, not %d bytes, %t, error %d", b, len(b), len(flight), whole, e, len(want), wantWhole, wantE)
	}
	if n := o.j.Waits(); n != o.w.waits() || n > most {
		t.Errorf("%.20x (%d bytes): %d wait, not %d", b, len(b), n, o.w.waits())
	}
	return e
}

// takeAs is take, where the error is plain: beside one, nothing waits any more.
func (o *both) takeAs(t *testing.T, b []byte, want api.Errno) {
	t.Helper()
	if e := o.take(t, b); e != want {
		t.Errorf("%.20x (%d bytes): error %d, not %d", b, len(b), e, want)
	}
	if want != api.OK && o.j.Waits() != 0 {
		t.Errorf("%.20x (%d bytes): %d wait beside an error", b, len(b), o.j.Waits())
	}
}

// put is a piece with these flags, and the count, if they have L.
func put(flags byte, count int, held ...byte) []byte {
	b := []byte{flags}
	if flags&0x80 != 0 {
		b = append(b, byte(count>>24), byte(count>>16), byte(count>>8), byte(count))
	}
	return append(b, held...)
}

func filled(n int) []byte { return sample.Filled(n, 1) }
