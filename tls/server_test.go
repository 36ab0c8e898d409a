package tls_test

import (
	"bytes"
	"fmt"
	"math"
	"slices"
	"testing"

	"tollgate/api"
	"tollgate/cert"
	"tollgate/curve"
	"tollgate/gcm"
	"tollgate/hello"
	"tollgate/record"
	"tollgate/sample"
	"tollgate/tls"
)

// noPoints are 65 bytes that no point is written as.
func noPoints(t *testing.T) [][]byte {
	t.Helper()
	share := newFar(t, tls.Config{Draw: drawOf(5)}, false).share
	changed := func(at int) []byte {
		b := bytes.Clone(share)
		b[at] ^= 1
		return b
	}
	infinity := make([]byte, 65)
	infinity[0] = 4
	return [][]byte{make([]byte, 65), infinity, changed(0), changed(1), changed(64), bytes.Repeat([]byte{4}, 65), bytes.Repeat([]byte{255}, 65)}
}

// served is a server, and a client of it that the test plays.
func served(t *testing.T, change func(a, b *tls.Config)) (*tls.Side, *far) {
	t.Helper()
	a, b := house(t)
	change(&a, &b)
	return tls.Serve(b), newFar(t, a, false)
}

func unchanged(a, b *tls.Config) {}

// asked is a server that has answered a Client without a share by a Retry.
func asked(t *testing.T, change func(a, b *tls.Config), session []byte) (*tls.Side, *far) {
	t.Helper()
	s, f := served(t, change)
	m := f.client(false)
	m.Session = session
	if m := f.talks(s, f.say(f.marked(m)))[0]; !m.Retry {
		t.Fatalf("no Retry: %v", m)
	}
	return s, f
}

// ends lets the client that the test plays say its own flight: the server is done then.
func (f *far) ends(what string, s *tls.Side, peer cert.Cert) hello.Msg {
	f.t.Helper()
	said := fed(f.t, s, f.rec(record.Handshake, f.last()))
	f.done()
	m := f.hear(said)[0]
	isDone(f.t, what, s, f, peer, f.resumed, false)
	return m
}

func TestSharesThatAreNone(t *testing.T) {
	t.Parallel()
	for i, b := range noPoints(t) {
		s, f := served(t, unchanged)
		m := f.client(true)
		m.Share = b
		isEnded(t, fmt.Sprint("no point ", i), s, f, f.say(m), api.ErrPoint)
		s, f = asked(t, unchanged, nil)
		m = f.client(true)
		m.Share = b
		isEnded(t, fmt.Sprint("no point behind a Retry ", i), s, f, f.say(m), api.ErrPoint)
	}
}

func TestSecondClients(t *testing.T) {
	t.Parallel()
	for _, x := range []struct {
		what    string
		session []byte
		change  func(m *hello.Msg)
		e       api.Errno
	}{
		{"another Random", nil, func(m *hello.Msg) { m.Random[31] ^= 1 }, api.ErrState},
		{"a Random of noughts", nil, func(m *hello.Msg) { m.Random = [32]byte{} }, api.ErrState},
		{"a Session where none was", nil, func(m *hello.Msg) { m.Session = []byte{0} }, api.ErrState},
		{"no Session any more", []byte{0}, func(m *hello.Msg) { m.Session = nil }, api.ErrState},
		{"another Session", []byte{1, 2, 3}, func(m *hello.Msg) { m.Session = []byte{1, 2, 4} }, api.ErrState},
		{"a shorter Session", []byte{1, 2, 3}, func(m *hello.Msg) { m.Session = []byte{1, 2} }, api.ErrState},
		{"a longer Session", []byte{1, 2, 3}, func(m *hello.Msg) { m.Session = []byte{1, 2, 3, 0} }, api.ErrState},
		{"another Random, and no Share", nil, func(m *hello.Msg) { m.Random[0], m.Share = m.Random[0]^1, nil }, api.ErrState},
		{"another Session, and no Share", nil, func(m *hello.Msg) { m.Session, m.Share = []byte{1}, nil }, api.ErrState},
		{"another Random, and no point", nil, func(m *hello.Msg) { m.Random[0], m.Share = m.Random[0]^1, make([]byte, 65) }, api.ErrState},
		{"no Share", nil, func(m *hello.Msg) { m.Share = nil }, api.ErrWeak},
		{"no Share, with a Session", sample.Filled(32, 1), func(m *hello.Msg) { m.Share = nil }, api.ErrWeak},
		{"no Share, but a ticket", nil, func(m *hello.Msg) { m.Share, m.Psk, m.Ticket = nil, true, []byte{1} }, api.ErrWeak},
	} {
		s, f := asked(t, unchanged, x.session)
		m := f.client(true)
		m.Session = x.session
		x.change(&m)
		isEnded(t, x.what, s, f, f.say(m), x.e)
	}
}

// What may be otherwise in a second Client: all but its Random and its Session.
func TestSecondClientsThatAreTaken(t *testing.T) {
	t.Parallel()
	client := read(t, clientCert(t))
	s, f := asked(t, unchanged, []byte{7})
	m := f.client(true)
	m.Session = []byte{7}
	f.talks(s, f.say(m))
	f.ends("another share", s, client)

	s, f = asked(t, unchanged, nil)
	f.c.Saved = saved(t)
	f.talks(s, f.say(f.client(true)))
	f.ends("a ticket that wasn't there", s, cert.Cert{Subject: "client"})
	if !f.resumed {
		t.Error("a ticket that the first Client hadn't doesn't count")
	}

	s, f = asked(t, func(a, b *tls.Config) { a.Saved = saved(t) }, nil)
	f.c.Saved = tls.Saved{}
	f.talks(s, f.say(f.client(true)))
	f.ends("no ticket any more", s, client)
	if f.resumed {
		t.Error("a ticket that is gone counts")
	}
}

// withTicket is a client that shows a ticket, and has a secret.
func withTicket(ticket []byte, secret [32]byte) func(a, b *tls.Config) {
	return func(a, b *tls.Config) { a.Saved = tls.Saved{Ticket: ticket, Psk: secret, Age: 5} }
}

// ticketOf is one by the house's server's key.
func ticketOf(t *testing.T, secret [32]byte, until int, subject string) []byte {
	t.Helper()
	return sealedTicket(t, drawOf(3), sample.Filled(12, 9), secret, uint64(until), subject)
}

// isTaken: a Client with a ticket is answered, and the talk comes to its end, resumed or in full.
func isTaken(t *testing.T, what string, change func(a, b *tls.Config), resumed bool, subject string) {
	t.Helper()
	for _, lazy := range []bool{false, true} {
		s, f := served(t, change)
		if lazy {
			s, f = asked(t, change, nil)
		}
		f.talks(s, f.say(f.client(true)))
		if f.resumed != resumed || s.Resumed() != resumed {
			t.Errorf("%s, lazy %v: resumed %v and %v", what, lazy, f.resumed, s.Resumed())
			continue
		}
		if resumed {
			f.ends(what, s, cert.Cert{Subject: subject})
		} else {
			f.ends(what, s, read(t, clientCert(t)))
		}
	}
}

func TestTicketsUntil(t *testing.T) {
	t.Parallel()
	for _, x := range []struct {
		now, until int
		counts     bool
	}{
		{50, 49, false}, {50, 50, true}, {50, 51, true}, {50, 1050, true}, {50, 0, false}, {50, -1, false},
		{0, 0, true}, {0, -1, false}, {1, 0, false}, {50, math.MaxInt, true}, {50, math.MinInt, false},
		{50, 1 << 56, true}, {50, 1 << 32, true}, {50, 1<<62 + 49, true}, {50, -1<<62 + 51, false},
	} {
		change := withTicket(ticketOf(t, drawOf(40), x.until, "me"), drawOf(40))
		isTaken(t, fmt.Sprintf("until %d at %d", x.until, x.now), func(a, b *tls.Config) {
			change(a, b)
			b.Now = x.now
		}, x.counts, "me")
	}
}

// Times at which no certificate counts: a ticket may.
func TestTicketsAtOtherTimes(t *testing.T) {
	t.Parallel()
	for _, x := range []struct {
		now, until int
		counts     bool
	}{
		{101, 101, true}, {-1, -1, true}, {-1, 0, true}, {-1, -2, false}, {math.MinInt, math.MinInt, true}, {math.MinInt, math.MaxInt, true},
		{math.MaxInt, math.MaxInt, true}, {math.MaxInt, math.MaxInt - 1, false}, {math.MaxInt, math.MinInt, false}, {101, 100, false},
	} {
		what := fmt.Sprintf("until %d at %d", x.until, x.now)
		s, f := served(t, func(a, b *tls.Config) {
			withTicket(ticketOf(t, drawOf(40), x.until, "me"), drawOf(40))(a, b)
			b.Now = x.now
		})
		f.talks(s, f.say(f.client(true)))
		if f.resumed != x.counts {
			t.Errorf("%s: resumed %v", what, f.resumed)
		}
		if f.resumed {
			m := f.ends(what, s, cert.Cert{Subject: "me"})
			isTicketOf(t, what, m, f, x.now+1000, "me")
		}
	}
}

// isTicketOf holds what is in a server's ticket against the words; the time may be beyond the greatest int.
func isTicketOf(t *testing.T, what string, m hello.Msg, f *far, until int, subject string) {
	t.Helper()
	nonce := drawnOf(drawOf(2), "nonce")
	want := sealedTicket(t, drawOf(3), nonce[:12], f.again([]byte{0}), uint64(until), subject)
	if !bytes.Equal(m.Ticket, want) || m.Life != 1000 || !bytes.Equal(m.Nonce, []byte{0}) {
		t.Errorf("%s: the ticket says %v", what, m)
	}
	key := drawOf(3)
	box, _ := gcm.New(key[:])
	if b, e := box.Open([12]byte(m.Ticket[:12]), m.Ticket[12:], nil); e != api.OK || len(b) != 40+len(subject) || string(b[40:]) != subject {
		t.Errorf("%s: the ticket holds %x, error %d", what, b, e)
	}
}

// A ticket says until when it counts: so long, and no longer.
func TestTicketsLife(t *testing.T) {
	t.Parallel()
	for now, counts := range map[int]bool{50: true, 1049: true, 1050: true, 1051: false, 2000: false, 49: true, math.MinInt: true, math.MaxInt: false} {
		s, f := served(t, func(a, b *tls.Config) { a.Saved, b.Now = saved(t), now })
		f.talks(s, f.say(f.client(true)))
		if f.resumed != counts {
			t.Errorf("a ticket of 50 at %d: resumed %v", now, f.resumed)
		}
	}
	// The time behind the greatest one is the least one, so such a ticket never counts.
	now := math.MaxInt - 999
	s, f := served(t, func(a, b *tls.Config) {
		withTicket(ticketOf(t, drawOf(40), math.MaxInt, "me"), drawOf(40))(a, b)
		b.Now = now
	})
	f.talks(s, f.say(f.client(true)))
	m := f.ends("near the greatest time", s, cert.Cert{Subject: "me"})
	s, f = served(t, func(a, b *tls.Config) {
		a.Saved = tls.Saved{Ticket: m.Ticket, Psk: f.again(m.Nonce)}
		b.Now = now
	})
	f.talks(s, f.say(f.client(true)))
	if f.resumed {
		t.Error("a ticket counts whose time is beyond the greatest one")
	}
}

// Tickets that hold fewer than 41 bytes, or more.
func TestTicketsInside(t *testing.T) {
	t.Parallel()
	for _, n := range []int{0, 1, 31, 32, 33, 39, 40, 41, 42, 104, 900, 972} {
		inside := bytes.Repeat([]byte{0x41}, n)
		for i := range min(n, 32) {
			inside[i] = byte(i)
		}
		var secret [32]byte
		copy(secret[:], inside)
		ticket := sealedBytes(t, drawOf(3), sample.Filled(12, 5), inside)
		if n <= 40 {
			// No Mark can be right where there is no whole secret; it isn't looked at.
			isTaken(t, fmt.Sprintf("%d bytes inside", n), withTicket(ticket, secret), false, "")
			continue
		}
		isTaken(t, fmt.Sprintf("%d bytes inside", n), withTicket(ticket, secret), true, string(inside[40:]))
	}
}

func TestTicketsThatAreNone(t *testing.T) {
	t.Parallel()
	good := ticketOf(t, drawOf(40), 100, "me")
	for n := 1; n < len(good); n++ {
		if n < 30 || n == len(good)-1 {
			isTaken(t, fmt.Sprintf("the first %d bytes of a ticket", n), withTicket(good[:n], drawOf(40)), false, "")
		}
	}
	for _, b := range [][]byte{append(bytes.Clone(good), 0), good[1:], make([]byte, 12), make([]byte, 28), sample.Filled(1000, 1),
		sealedTicket(t, drawOf(4), sample.Filled(12, 9), drawOf(40), 100, "me"),
		sealedTicket(t, [32]byte{}, sample.Filled(12, 9), drawOf(40), 100, "me")} {
		isTaken(t, fmt.Sprintf("%.20x (%d bytes)", b, len(b)), withTicket(b, drawOf(40)), false, "")
	}
}

// Each byte of a ticket changed: it is none, and no error.
func TestChangedTickets(t *testing.T) {
	t.Parallel()
	good := ticketOf(t, drawOf(40), 100, "me")
	for i := range good {
		b := bytes.Clone(good)
		b[i] ^= 1 << (i % 8)
		s, f := served(t, withTicket(b, drawOf(40)))
		if m := f.talks(s, f.say(f.client(true)))[0]; m.Psk || s.Resumed() {
			t.Errorf("byte %d of a ticket is changed, and it counts", i)
		}
	}
}

func TestSubjectsOfTickets(t *testing.T) {
	t.Parallel()
	for _, subject := range []string{"x", "client", "somebody else", "\x00", "\xFF\x01", "server", string(sample.Filled(64, 1)), string(sample.Filled(65, 2))} {
		isTaken(t, fmt.Sprintf("%q", subject), withTicket(ticketOf(t, drawOf(40), 100, subject), drawOf(40)), true, subject)
	}
}

// Who shows a ticket that counts must have its secret.
func TestWrongMarks(t *testing.T) {
	t.Parallel()
	good := ticketOf(t, drawOf(40), 100, "me")
	isWrong := func(what string, change func(f *far, m *hello.Msg)) {
		t.Helper()
		for _, lazy := range []bool{false, true} {
			s, f := served(t, withTicket(good, drawOf(40)))
			if lazy {
				s, f = asked(t, withTicket(good, drawOf(40)), nil)
			}
			m := f.client(true)
			change(f, &m)
			isEnded(t, fmt.Sprint(what, ", lazy ", lazy), s, f, f.say(m), api.ErrMac)
		}
	}
	for i := range 32 {
		isWrong(fmt.Sprintf("byte %d of a Mark", i), func(f *far, m *hello.Msg) { m.Mark[i] ^= 1 << (i % 8) })
	}
	isWrong("a Mark of noughts", func(f *far, m *hello.Msg) { m.Mark = [32]byte{} })
	isWrong("another secret", func(f *far, m *hello.Msg) {
		f.c.Saved.Psk[0] ^= 1
		*m = f.marked(*m)
	})
	isWrong("no secret", func(f *far, m *hello.Msg) {
		f.c.Saved.Psk = [32]byte{}
		*m = f.marked(*m)
	})
	isWrong("another Age", func(f *far, m *hello.Msg) { m.Age++ })
	isWrong("of other messages", func(f *far, m *hello.Msg) {
		f.all = append(f.all, 0)
		*m = f.marked(*m)
	})
	isWrong("a Mark ahead of a Share that is none", func(f *far, m *hello.Msg) {
		m.Mark[5] ^= 1
		m.Share = make([]byte, 65)
	})
	isWrong("the mark of another Share", func(f *far, m *hello.Msg) { m.Share = make([]byte, 65) })
}

// A ticket that counts, its right Mark, and a Share that is none.
func TestRightMarkAndNoPoint(t *testing.T) {
	t.Parallel()
	for i, b := range noPoints(t) {
		s, f := served(t, withTicket(ticketOf(t, drawOf(40), 100, "me"), drawOf(40)))
		m := f.client(true)
		m.Share = b
		isEnded(t, fmt.Sprint("no point ", i), s, f, f.say(f.marked(m)), api.ErrPoint)
	}
}

// Of a ticket that doesn't count the Mark isn't looked at; nor is it in a Client that is asked again.
func TestMarksThatDontCount(t *testing.T) {
	t.Parallel()
	late := ticketOf(t, drawOf(40), 49, "me")
	s, f := served(t, withTicket(late, drawOf(41)))
	m := f.client(true)
	m.Mark[3] ^= 1
	f.talks(s, f.say(m))
	f.ends("a late ticket with a wrong Mark", s, read(t, clientCert(t)))

	s, f = served(t, withTicket(ticketOf(t, drawOf(40), 100, "me"), drawOf(40)))
	m = f.client(false)
	m.Mark[3] ^= 1
	f.talks(s, f.say(m))
	f.talks(s, f.say(f.client(true)))
	f.ends("a wrong Mark in a first Client", s, cert.Cert{Subject: "me"})
}

// A first Client's Mark isn't right in the second one.
func TestFirstMarkTwice(t *testing.T) {
	t.Parallel()
	s, f := served(t, withTicket(ticketOf(t, drawOf(40), 100, "me"), drawOf(40)))
	first := f.client(true)
	f.talks(s, f.say(f.client(false)))
	isEnded(t, "the Mark as if nothing was said", s, f, f.say(first), api.ErrMac)
}

// A server that can't say its flight: it can seal by then, and the alert is all that it says.
func TestServersThatCantProve(t *testing.T) {
	t.Parallel()
	order := curve.Order()
	for _, x := range []struct {
		what   string
		change func(b *tls.Config)
		e      api.Errno
	}{
		{"no secret", func(b *tls.Config) { b.Secret = [32]byte{} }, api.ErrArg},
		{"a secret that is too great", func(b *tls.Config) { b.Secret = order }, api.ErrArg},
		{"the greatest secret", func(b *tls.Config) { b.Secret = [32]byte(bytes.Repeat([]byte{255}, 32)) }, api.ErrArg},
		{"a long chain", func(b *tls.Config) { b.Chain = slices.Repeat(b.Chain, 6) }, api.ErrForm},
		{"an empty certificate", func(b *tls.Config) { b.Chain = append(slices.Clone(b.Chain), nil) }, api.ErrForm},
		{"a great certificate", func(b *tls.Config) { b.Chain = [][]byte{make([]byte, 2049)} }, api.ErrForm},
		{"a long chain and no secret", func(b *tls.Config) { b.Chain, b.Secret = slices.Repeat(b.Chain, 6), [32]byte{} }, api.ErrForm},
	} {
		for _, lazy := range []bool{false, true} {
			change := func(a, b *tls.Config) { x.change(b) }
			s, f := served(t, change)
			if lazy {
				s, f = asked(t, change, nil)
			}
			said := f.say(f.client(true))
			other := newFar(t, tls.Config{Draw: drawOf(2)}, true)
			other.all, other.asked = bytes.Clone(f.all), f.client(true)
			other.sayHi()
			f.open = record.New(other.ours)
			isEnded(t, fmt.Sprint(x.what, ", lazy ", lazy), s, f, said, x.e)
		}
		// By a ticket it needn't prove anything.
		s, f := served(t, func(a, b *tls.Config) {
			withTicket(ticketOf(t, drawOf(40), 100, "me"), drawOf(40))(a, b)
			x.change(b)
		})
		f.talks(s, f.say(f.client(true)))
		f.ends(x.what+", resumed", s, cert.Cert{Subject: "me"})
	}
}

// A secret that isn't that of the first certificate: the client finds out.
func TestServersWithAnothersSecret(t *testing.T) {
	t.Parallel()
	a, b := house(t)
	b.Secret = secretOf(stranger)
	c, first := dialed(t, a)
	s := tls.Serve(b)
	f := newFar(t, b, true)
	f.hear(first)
	want := f.begin()
	if got := fed(t, s, first); !bytes.Equal(got, want) {
		t.Errorf("it says %x, not %x", got, want)
	}
	isEnded(t, "another's secret", c, f, want, api.ErrSig)
}
