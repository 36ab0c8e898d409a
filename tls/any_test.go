package tls_test

import (
	"fmt"
	"math/rand"
	"testing"

	"tollgate/api"
	"tollgate/hello"
	"tollgate/record"
	"tollgate/tls"
)

// anyBytes are of many sorts: by chance, records of such, or messages of such in records.
func anyBytes(r *rand.Rand, f *far) []byte {
	b := make([]byte, r.Intn(60))
	r.Read(b)
	if r.Intn(3) > 0 && len(b) > 4 {
		copy(b, []byte{[]byte{1, 2, 4, 8, 11, 13, 15, 20}[r.Intn(8)], 0, 0, byte(len(b) - 4)})
	}
	kind := 21 + r.Intn(3)
	switch r.Intn(4) {
	case 0:
		return b
	case 1:
		rec, _ := record.Bare(kind, b)
		return rec
	}
	return f.rec(kind, b)
}

// Whatever comes, an end answers, and one that failed stays so.
func TestAnyBytes(t *testing.T) {
	t.Parallel()
	eachPlace(t, func(t *testing.T, p place) {
		r := rand.New(rand.NewSource(int64(p.passed) + 1))
		for range 12 {
			s, f := p.reached(t)
			for range 3 {
				b := anyBytes(r, f)
				failed := s.Failed()
				out, e := s.Feed(b)
				if failed && (e != api.ErrState || len(out) > 0) || e != api.OK != s.Failed() {
					t.Fatalf("%s: %x is answered by %x, error %d, failed %v", p.what(), b, out, e, s.Failed())
				}
				if s.Failed() {
					isOver(t, p.what(), s)
				}
			}
		}
	})
}

// Right messages, in any order and any records: an end that isn't told all in its turn is never done.
func TestAnyOrder(t *testing.T) {
	t.Parallel()
	for _, p := range paths() {
		t.Run(p.what, func(t *testing.T) {
			t.Parallel()
			r := rand.New(rand.NewSource(5))
			for range 15 {
				s, f := p.begun(t)
				n := r.Intn(len(p.steps))
				for _, x := range p.steps[:n] {
					x.do(s, f)
				}
				list := []hello.Msg{{Kind: hello.Extensions}, {Kind: hello.Request}, f.certs(), f.verify(), f.finished(), f.client(true), f.hi(nil)}
				waits := place{p, n}.waits()
				m := list[r.Intn(len(list))]
				out, e := s.Feed(f.say(m))
				if m.Kind != waits && e != api.ErrState || e != api.OK != s.Failed() || s.Done() && waits != hello.Finished && waits != hello.Ticket {
					t.Errorf("%s: a message of kind %d, not %d: %.20x, error %d", place{p, n}.what(), m.Kind, waits, out, e)
				}
			}
		})
	}
}

// What an end says comes back to it, or to another one of its own sort.
func TestEndsOfOneSort(t *testing.T) {
	t.Parallel()
	a, b := house(t)
	c, first := dialed(t, a)
	isEnded(t, "its own Client", c, newFar(t, b, true), first, api.ErrState)
	d, _ := dialed(t, tls.Config{Draw: drawOf(90), Lazy: true})
	isEnded(t, "another client's", d, newFar(t, b, true), first, api.ErrState)
	s, other := tls.Serve(b), tls.Serve(b)
	f := newFar(t, a, false)
	flight := fed(t, s, f.say(f.client(true)))
	isEnded(t, "another server's", other, newFar(t, a, false), flight, api.ErrState)
	f.hear(flight)
	out, e := s.Feed(flight)
	isAlert(t, "its own flight", f.open, out, api.ErrForm)
	isOver(t, fmt.Sprint("its own flight: error ", e), s)
}
