package tls_test

import (
	"bytes"
	"fmt"
	"testing"

	"tollgate/api"
	"tollgate/cert"
	"tollgate/hello"
	"tollgate/record"
	"tollgate/sample"
	"tollgate/tls"
)

func dialed(t *testing.T, c tls.Config) (*tls.Side, []byte) {
	t.Helper()
	s, said, e := tls.Dial(c)
	if e != api.OK || s == nil {
		t.Fatal("no client: error ", e)
	}
	return s, said
}

func fed(t *testing.T, s *tls.Side, b []byte) []byte {
	t.Helper()
	said, e := s.Feed(b)
	if e != api.OK {
		t.Fatalf("%.40x (%d bytes) is refused: error %d, %x", b, len(b), e, said)
	}
	return said
}

// said lets a client and a server speak till nothing is said any more.
func said(t *testing.T, a, b tls.Config) (c, s *tls.Side, flights [][]byte) {
	t.Helper()
	c, b0 := dialed(t, a)
	s = tls.Serve(b)
	to, other := s, c
	for next := b0; len(next) > 0 && len(flights) < 20; to, other = other, to {
		flights = append(flights, next)
		next = fed(t, to, next)
	}
	return c, s, flights
}

// stands holds how an end stands against what is expected.
func stands(t *testing.T, what string, s *tls.Side, done, failed, resumed, committed bool) {
	t.Helper()
	if s.Done() != done || s.Failed() != failed || s.Resumed() != resumed || s.Committed() != committed {
		t.Errorf("%s: done %v, failed %v, resumed %v, committed %v", what, s.Done(), s.Failed(), s.Resumed(), s.Committed())
	}
}

// tellsNothing: an end that isn't done has nobody at its other end, no sum, nothing to keep and nothing to export.
func tellsNothing(t *testing.T, what string, s *tls.Side) {
	t.Helper()
	if s.Done() || !sameCert(s.Peer(), cert.Cert{}) || s.Sum() != [32]byte{} {
		t.Errorf("%s: done %v, peer %v, sum %x", what, s.Done(), s.Peer(), s.Sum())
	}
	if v, ok := s.Saved(); ok || !sameSaved(v, tls.Saved{}) {
		t.Errorf("%s: keeps %v", what, v)
	}
	for _, label := range []string{"l", string(make([]byte, 300))} {
		if b, e := s.Export(label, nil, 20); e != api.ErrState || len(b) > 0 {
			t.Errorf("%s: exports %x, error %d", what, b, e)
		}
	}
}

// exportsAs: an end exports what the words say.
func exportsAs(t *testing.T, what string, s *tls.Side, f *far) {
	t.Helper()
	for _, label := range []string{"EXPORTER_EAP_TLS_Key_Material", "l", "", string(sample.Filled(249, 1))} {
		for _, context := range [][]byte{nil, {13}, sample.Filled(300, 1)} {
			for _, n := range []int{0, 1, 32, 128, 8160} {
				if b, e := s.Export(label, context, n); e != api.OK || !bytes.Equal(b, f.exports(label, context, n)) {
					t.Errorf("%s: %.10q, %d bytes: %.40x, error %d", what, label, n, b, e)
				}
			}
		}
	}
	for _, n := range []int{-1, 8161, 1 << 62} {
		if b, e := s.Export("l", nil, n); e != api.ErrArg || len(b) > 0 {
			t.Errorf("%s: %d bytes are exported: %d, error %d", what, n, len(b), e)
		}
	}
	if b, e := s.Export(string(make([]byte, 250)), nil, 20); e != api.ErrArg || len(b) > 0 {
		t.Errorf("%s: by a long label: %x, error %d", what, b, e)
	}
}

// isDone holds an end that is done against the words.
func isDone(t *testing.T, what string, s *tls.Side, f *far, peer cert.Cert, resumed, committed bool) {
	t.Helper()
	stands(t, what, s, true, false, resumed, committed)
	if s.Sum() != f.sum || !sameCert(s.Peer(), peer) {
		t.Errorf("%s: sum %x, not %x, peer %v, not %v", what, s.Sum(), f.sum, s.Peer(), peer)
	}
	exportsAs(t, what, s, f)
}

// isSaid lets two ends speak, and holds each flight, and what they come to, against the words.
func isSaid(t *testing.T, what string, a, b tls.Config) talk {
	t.Helper()
	want := wordsOf(t, a, b)
	c, s, flights := said(t, a, b)
	if len(flights) != len(want.flights) {
		t.Fatalf("%s: %d flights, not %d", what, len(flights), len(want.flights))
	}
	for i, f := range flights {
		if !bytes.Equal(f, want.flights[i]) {
			t.Errorf("%s: flight %d: %x, not %x", what, i, f, want.flights[i])
		}
	}
	resumed := len(a.Saved.Ticket) > 0
	isDone(t, what+": the client", c, want.c, want.c.peer, resumed, true)
	isDone(t, what+": the server", s, want.s, want.s.peer, resumed, false)
	if v, ok := c.Saved(); !ok || !sameSaved(v, want.saved) {
		t.Errorf("%s: the client keeps %v, not %v", what, v, want.saved)
	}
	if v, ok := s.Saved(); ok || !sameSaved(v, tls.Saved{}) {
		t.Errorf("%s: the server keeps %v", what, v)
	}
	return want
}

func TestTalks(t *testing.T) {
	t.Parallel()
	for _, lazy := range []bool{false, true} {
		a, b := house(t)
		a.Lazy = lazy
		x := isSaid(t, fmt.Sprint("in full, lazy: ", lazy), a, b)
		if x.c.peer.Subject != "server" || x.s.peer.Subject != "client" || !sameCert(x.c.peer, read(t, serverCert(t))) {
			t.Error("the test's own ends don't know each other")
		}
		// Its ticket counts another time, and so does the one that comes then.
		for i := range 3 {
			a.Saved, a.Draw, b.Draw = x.saved, drawOf(10+i), drawOf(20+i)
			a.Lazy = i == 1 != lazy
			x = isSaid(t, fmt.Sprintf("by ticket %d, lazy: %v", i, lazy), a, b)
		}
	}
}

// What an end draws is all that one talk has ahead of another.
func TestTalksByAnyDraws(t *testing.T) {
	t.Parallel()
	a, b := house(t)
	for i := range 6 {
		a.Draw, b.Draw, b.Tickets, a.Lazy = drawOf(100+i), drawOf(200+i), drawOf(300+i), i%2 == 0
		isSaid(t, fmt.Sprint("draw ", i), a, b)
	}
	b.Draw, b.Tickets = a.Draw, [32]byte{}
	isSaid(t, "both draw the same", a, b)
	a.Draw, b.Draw = [32]byte{}, [32]byte{}
	isSaid(t, "both draw of noughts", a, b)
}

// Scalars that are none: the next ones are taken.
func TestRefusedScalars(t *testing.T) {
	t.Parallel()
	a, b := house(t)
	own, other := a.Draw, b.Draw
	for i, draw := range refused() {
		if first := drawnOf(draw, "share"); newFar(t, tls.Config{Draw: draw}, false).scalar == first {
			t.Fatalf("the first scalar of draw %d isn't refused", i)
		}
		a.Draw, b.Draw, a.Lazy = draw, other, i == 1
		isSaid(t, fmt.Sprint("of the client, draw ", i), a, b)
		a.Draw, b.Draw = own, draw
		isSaid(t, fmt.Sprint("of the server, draw ", i), a, b)
	}
}

func TestTalksByLongChains(t *testing.T) {
	t.Parallel()
	for n := 1; n <= api.MaxChain; n++ {
		a, b := house(t)
		a.Chain = longChain(t, n, "client", cert.Sign|cert.Client, clientNumber)
		b.Chain = longChain(t, api.MaxChain+1-n, "server", cert.Sign|cert.Server, serverNumber)
		isSaid(t, fmt.Sprint("a chain of ", n), a, b)
	}
}

// Certificates count from their first time to their last one.
func TestTalksAtEdgesOfTime(t *testing.T) {
	t.Parallel()
	for _, now := range []int{0, 1, 99, 100} {
		a, b := house(t)
		a.Now, b.Now = now, 100-now
		isSaid(t, fmt.Sprint("at ", now), a, b)
	}
}

// Each flight has the records that the document's example names.
func TestFlightsRecords(t *testing.T) {
	t.Parallel()
	a, b := house(t)
	_, _, flights := said(t, a, b)
	want := [][]int{{22}, {22, 23}, {23}, {23, 23}}
	if len(flights) != len(want) {
		t.Fatalf("%d flights", len(flights))
	}
	for i, f := range flights {
		var kinds []int
		for _, rec := range recordsOf(t, f) {
			kinds = append(kinds, int(rec[0]))
		}
		if fmt.Sprint(kinds) != fmt.Sprint(want[i]) {
			t.Errorf("flight %d has records %v, not %v", i, kinds, want[i])
		}
	}
}

func recordsOf(t *testing.T, b []byte) [][]byte {
	t.Helper()
	var list [][]byte
	for len(b) > 0 {
		rec, rest, e := record.Cut(b)
		if e != api.OK {
			t.Fatal("no records: error ", e)
		}
		list = append(list, rec)
		b = rest
	}
	return list
}

// How both ends stand behind each flight.
func TestStandsOnTheWay(t *testing.T) {
	t.Parallel()
	for _, lazy := range []bool{false, true} {
		for _, v := range []tls.Saved{{}, saved(t)} {
			a, b := house(t)
			a.Lazy, a.Saved, b.Draw = lazy, v, drawOf(7)
			resumed := len(v.Ticket) > 0
			c, first := dialed(t, a)
			s := tls.Serve(b)
			stands(t, "a client that begins", c, false, false, false, false)
			stands(t, "a server that begins", s, false, false, false, false)
			next := fed(t, s, first)
			if lazy {
				stands(t, "a server that asked again", s, false, false, false, false)
				next = fed(t, c, next)
				stands(t, "a client that said it again", c, false, false, false, false)
				next = fed(t, s, next)
			}
			stands(t, "a server that said its flight", s, false, false, resumed, false)
			tellsNothing(t, "a server that said its flight", s)
			tellsNothing(t, "a client that begins", c)
			next = fed(t, c, next)
			stands(t, "a client that said its flight", c, true, false, resumed, false)
			if v, ok := c.Saved(); ok || !sameSaved(v, tls.Saved{}) {
				t.Errorf("kept ahead of a ticket: %v", v)
			}
			next = fed(t, s, next)
			stands(t, "a server that is done", s, true, false, resumed, false)
			recs := recordsOf(t, next)
			if b := fed(t, c, recs[0]); len(b) > 0 {
				t.Errorf("said of a ticket: %x", b)
			}
			stands(t, "a client with a ticket", c, true, false, resumed, false)
			if v, ok := c.Saved(); !ok || len(v.Ticket) == 0 {
				t.Error("a ticket isn't kept")
			}
			if b := fed(t, c, recs[1]); len(b) > 0 {
				t.Errorf("said of 00: %x", b)
			}
			stands(t, "a client that is committed", c, true, false, resumed, true)
		}
	}
}

// Nothing comes: nothing is said, and nothing changes.
func TestNothingIsFed(t *testing.T) {
	t.Parallel()
	eachPlace(t, func(t *testing.T, p place) {
		s, f := p.reached(t)
		for _, b := range [][]byte{nil, {}} {
			if out, e := s.Feed(b); e != api.OK || len(out) > 0 || s.Failed() {
				t.Errorf("%s: of nothing %x, error %d", p.what(), out, e)
			}
		}
		p.goesOn(t, s, f)
	})
}

// A server gives a Session back as it came, with a Retry too.
func TestSessions(t *testing.T) {
	t.Parallel()
	for _, n := range []int{0, 1, 31, 32} {
		for _, lazy := range []bool{false, true} {
			a, b := house(t)
			f, s := newFar(t, a, false), tls.Serve(b)
			m, session := f.client(!lazy), sample.Filled(n, 1)
			m.Session = session
			answer := f.hear(fed(t, s, f.say(m)))[0]
			if lazy {
				if !answer.Retry || !bytes.Equal(answer.Session, session) {
					t.Fatalf("a Session of %d: no Retry: %v", n, answer)
				}
				m.Share = f.share
				answer = f.hear(fed(t, s, f.say(m)))[0]
			}
			if answer.Kind != hello.Server || answer.Retry || !bytes.Equal(answer.Session, session) {
				t.Fatalf("a Session of %d: no Server: %v", n, answer)
			}
			out := fed(t, s, f.rec(record.Handshake, f.last()))
			f.done()
			f.hear(out)
			isDone(t, fmt.Sprint("a Session of ", n), s, f, read(t, clientCert(t)), false, false)
		}
	}
}
