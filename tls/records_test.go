package tls_test

import (
	"fmt"
	"math/rand"
	"slices"
	"testing"

	"tollgate/api"
	"tollgate/cert"
	"tollgate/hello"
	"tollgate/record"
	"tollgate/tls"
)

// sealedMessages are those that the test's end seals in its flight, as bytes; all count by then.
func (f *far) sealedMessages() [][]byte {
	f.t.Helper()
	var list [][]byte
	if f.server {
		list = append(list, f.put(hello.Msg{Kind: hello.Extensions}))
		if !f.resumed {
			list = append(list, f.put(hello.Msg{Kind: hello.Request}))
		}
	}
	if !f.resumed {
		list = append(list, f.put(f.certs()))
		list = append(list, f.put(f.verify()))
	}
	list = append(list, f.put(f.finished()))
	if f.server {
		f.sum = f.now()
	}
	return list
}

// sealing is an end that waits for the first sealed message of the other.
func sealing(t *testing.T, p path) (*tls.Side, *far) {
	t.Helper()
	n := slices.IndexFunc(p.steps, func(x step) bool { return x.kind != hello.Client && x.kind != hello.Server })
	return place{p, n}.reached(t)
}

// A flight's messages in records as they come by chance, with noughts behind them, and in calls as they come by chance.
func TestFlightsInAnyRecords(t *testing.T) {
	t.Parallel()
	for _, p := range paths() {
		for seed := range 12 {
			r := rand.New(rand.NewSource(int64(seed)))
			s, f := sealing(t, p)
			var waiting, said []byte
			list := f.sealedMessages()
			for len(list) > 0 {
				n := 1 + r.Intn(len(list))
				waiting = append(waiting, f.padded(record.Handshake, r.Intn(3)*r.Intn(300), list[:n]...)...)
				list = list[n:]
				if len(list) == 0 || r.Intn(2) == 0 {
					said = append(said, fed(t, s, waiting)...)
					waiting = nil
				}
			}
			if p.server {
				f.done()
				f.hear(said)
			} else {
				f.hear(said)
				f.done()
				f.talks(s, f.rec(record.Handshake, f.bytesOf(f.ticket())))
			}
			place{p, len(p.steps)}.goesOn(t, s, f)
		}
	}
}

// All that a server says in one bare record: the words don't rule that out.
func TestABareFlight(t *testing.T) {
	t.Parallel()
	s, f := called(t, unchanged)
	b := f.put(f.hi(nil))
	f.meet(f.asked.Share)
	all := slices.Concat(b, slices.Concat(f.sealedMessages()...))
	rec, e := record.Bare(record.Handshake, all)
	f.isOK(e, "a record")
	f.talks(s, rec)
	f.done()
	stands(t, "a client", s, true, false, false, false)
	f.talks(s, f.rec(record.Data, []byte{0}))
	isDone(t, "a client", s, f, read(t, serverCert(t)), false, true)
}

// A message that is cut in two, in two records, or in two calls.
func TestMessagesCutInTwo(t *testing.T) {
	t.Parallel()
	for _, p := range paths() {
		_, f := sealing(t, p)
		size := len(slices.Concat(f.sealedMessages()...))
		for at := 1; at < size; at += 1 + size/23 {
			s, f := sealing(t, p)
			list := f.sealedMessages()
			b, whole := slices.Concat(list...), false
			for sum := 0; len(list) > 0 && sum <= at; list = list[1:] {
				whole = whole || sum == at
				sum += len(list[0])
			}
			if whole {
				continue
			}
			isEnded(t, fmt.Sprintf("%s: cut at %d of %d", p.what, at, size), s, f, slices.Concat(f.rec(record.Handshake, b[:at]), f.rec(record.Handshake, b[at:])), api.ErrTail)
		}
	}
	for _, n := range []int{1, 3, 4, 100} {
		s, f := served(t, unchanged)
		b := f.bytesOf(f.client(true))
		isEnded(t, "half a Client", s, f, f.rec(record.Handshake, b[:n]), api.ErrTail)
	}
}

// A wrong message behind right ones in one record, or one behind the last: what was said by then isn't said.
func TestWrongBehindRight(t *testing.T) {
	t.Parallel()
	for _, p := range paths() {
		for _, x := range []struct {
			b []byte
			e api.Errno
		}{{[]byte{20, 0, 0, 0}, api.ErrForm}, {[]byte{8, 0, 0, 2, 0, 0}, api.ErrState}, {[]byte{8, 0, 0}, api.ErrTail}, {[]byte{0}, api.ErrForm}} {
			s, f := sealing(t, p)
			b := append(slices.Concat(f.sealedMessages()...), x.b...)
			rec := f.rec(record.Handshake, b)
			openLast(f)
			isEnded(t, fmt.Sprintf("%s: a flight and %x", p.what, x.b), s, f, rec, x.e)
			s, f = sealing(t, p)
			rec = f.rec(record.Handshake, f.sealedMessages()...)
			openLast(f)
			isEnded(t, fmt.Sprintf("%s: a flight and a record with %x", p.what, x.b), s, f, append(rec, f.rec(record.Handshake, x.b)...), x.e)
		}
	}
}

// openLast: the other end has taken the whole flight, so it seals by its last secrets; a server has sealed a ticket and 00,
// which don't come.
func openLast(f *far) {
	f.done()
	if !f.server {
		f.open = opener(f.t, f.theirs, 2)
	}
}

// opener has opened n records by a secret.
func opener(t *testing.T, secret [32]byte, n int) *record.Half {
	t.Helper()
	h := record.New(secret)
	for i := range n {
		if _, _, e := h.Open(sealedInside(t, secret, i, []byte{0, 23})); e != api.OK {
			t.Fatal("a record isn't opened: error ", e)
		}
	}
	return h
}

// Records are taken one by one: what is wrong with one that stands behind others is told behind these.
func TestRecordsOneByOne(t *testing.T) {
	t.Parallel()
	s, f := served(t, unchanged)
	first := f.say(f.client(true))
	isEnded(t, "an alert, and no record", s, f, []byte{21, 3, 3, 0, 0, 99}, api.ErrAlert)

	s, _ = served(t, unchanged)
	g := newFar(t, tls.Config{Draw: drawOf(2)}, true)
	g.hear(first)
	g.sayHi()
	f.open = opener(t, g.ours, 1)
	isEnded(t, "a Client, and no record", s, f, append(first, 99), api.ErrForm)

	c, f := called(t, unchanged)
	hi := f.sayHi()
	isEnded(t, "a Server, and a record that isn't whole", c, f, append(hi, 23, 3, 3, 0, 20, 0), api.ErrTail)

	c, f = called(t, unchanged)
	hi = f.sayHi()
	isEnded(t, "a Server, and a bare one more", c, f, append(hi, hi...), api.ErrForm)
}

// A Client and another one in one record; and two in one call.
func TestTwoClients(t *testing.T) {
	t.Parallel()
	for _, together := range []bool{true, false} {
		s, f := served(t, unchanged)
		b := f.put(f.client(true))
		g := newFar(t, tls.Config{Draw: drawOf(2)}, true)
		g.all, g.asked = f.all, f.client(true)
		g.sayHi()
		rec := f.rec(record.Handshake, b, b)
		want := api.ErrState
		if !together {
			rec, want = append(f.rec(record.Handshake, b), f.rec(record.Handshake, b)...), api.ErrForm
		}
		f.open = opener(t, g.ours, 1)
		isEnded(t, "two Clients", s, f, rec, want)
	}
	// Where a second one is waited for, both may come at once.
	for _, together := range []bool{true, false} {
		s, f := served(t, unchanged)
		first := f.put(f.client(false))
		f.restart()
		f.put(hello.Msg{Kind: hello.Server, Retry: true})
		second := f.put(f.client(true))
		rec := f.rec(record.Handshake, first, second)
		if !together {
			rec = append(f.rec(record.Handshake, first), f.rec(record.Handshake, second)...)
		}
		out := fed(t, s, rec)
		recs := recordsOf(t, out)
		if m, _, _ := hello.Read(recs[0][5:]); !m.Retry || len(recs) != 3 {
			t.Fatalf("both Clients are answered by %x", out)
		}
		f.hear(slices.Concat(recs[1:]...))
		f.ends("both Clients at once", s, read(t, clientCert(t)))
	}
}

// Sealed records come once, in their order.
func TestSealedRecordsTwice(t *testing.T) {
	t.Parallel()
	for _, server := range []bool{true, false} {
		s, f := proving(t, server, false, false, hello.Certs)
		rec := f.say(f.certs())
		fed(t, s, rec)
		isEnded(t, "a sealed record twice", s, f, rec, api.ErrMac)
		s, f = proving(t, server, false, false, hello.Certs)
		f.say(f.certs())
		isEnded(t, "a record ahead of its turn", s, f, f.say(f.verify()), api.ErrMac)
	}
}

// Two talks at once don't know of each other; a record of one isn't opened in the other.
func TestTalksByThemselves(t *testing.T) {
	t.Parallel()
	s, f := proving(t, true, false, false, hello.Certs)
	other, g := served(t, func(a, b *tls.Config) { a.Draw, b.Draw = drawOf(70), drawOf(71) })
	g.talks(other, g.say(g.client(true)))
	rec := f.say(f.certs())
	fed(t, s, rec)
	isEnded(t, "a record of another talk", other, g, rec, api.ErrMac)
	f.talks(s, f.say(f.verify()))
	said := fed(t, s, f.say(f.finished()))
	f.done()
	f.hear(said)
	isDone(t, "beside a talk that failed", s, f, read(t, clientCert(t)), false, false)
}

// How a client stands that failed behind its end.
func TestFailedBehindTheEnd(t *testing.T) {
	t.Parallel()
	for _, p := range paths() {
		for _, committed := range []bool{false, true} {
			s, f := place{p, len(p.steps)}.reached(t)
			if committed && !p.server {
				fed(t, s, f.rec(record.Data, []byte{0}))
			}
			isEnded(t, p.what+": an alert at last", s, f, f.rec(record.Alert, []byte{2, 80}), api.ErrAlert)
			stands(t, p.what, s, false, true, p.resumed, committed && !p.server)
		}
	}
}

// None, and ones that neither Dial nor Serve made.
func TestNoSide(t *testing.T) {
	t.Parallel()
	for _, s := range []*tls.Side{nil, new(tls.Side)} {
		for _, b := range [][]byte{nil, {0}, {21, 3, 3, 0, 2, 2, 40}, {22, 3, 3, 0, 6, 8, 0, 0, 2, 0, 0}} {
			if out, e := s.Feed(b); e != api.ErrArg || len(out) > 0 {
				t.Errorf("%x: %x, error %d", b, out, e)
			}
		}
		stands(t, "no side", s, false, false, false, false)
		if v, ok := s.Saved(); ok || !sameSaved(v, tls.Saved{}) || !sameCert(s.Peer(), cert.Cert{}) || s.Sum() != [32]byte{} {
			t.Errorf("it keeps %v, its peer is %v, its sum %x", v, s.Peer(), s.Sum())
		}
		if b, e := s.Export("l", nil, 20); e != api.ErrArg || len(b) > 0 {
			t.Errorf("exports %x, error %d", b, e)
		}
	}
}
