package tls_test

import (
	"bytes"
	"fmt"
	"math"
	"slices"
	"testing"

	"tollgate/api"
	"tollgate/cert"
	"tollgate/curve"
	"tollgate/hello"
	"tollgate/record"
	"tollgate/sample"
	"tollgate/tls"
)

// called is a client, and a server to which it says its Client, that the test plays.
func called(t *testing.T, change func(a, b *tls.Config)) (*tls.Side, *far) {
	t.Helper()
	a, b := house(t)
	change(&a, &b)
	s, first := dialed(t, a)
	f := newFar(t, b, true)
	f.hear(first)
	return s, f
}

func lazily(a, b *tls.Config) { a.Lazy = true }

// A Client is as the words say, whatever the end knows.
func TestDial(t *testing.T) {
	t.Parallel()
	for _, lazy := range []bool{false, true} {
		for _, n := range []int{0, 1, 2, 12, 127, 128, 255, 256, 999, 1000} {
			for _, age := range []int{0, 1, 255, 256, 1 << 31, 1<<32 - 1} {
				a, _ := house(t)
				a.Lazy = lazy
				a.Saved = tls.Saved{Ticket: sample.Filled(n, 1), Psk: drawOf(6), Age: age, Peer: cert.Cert{Subject: "server"}}
				if n == 0 {
					a.Saved.Age = -age
				}
				s, said := dialed(t, a)
				f := newFar(t, a, false)
				if want := f.say(f.client(!lazy)); !bytes.Equal(said, want) {
					t.Errorf("a ticket of %d, Age %d, lazy %v: %x, not %x", n, age, lazy, said, want)
				}
				stands(t, "a client that begins", s, false, false, false, false)
			}
		}
	}
}

// A ticket, or an Age, that no message has.
func TestDialRefused(t *testing.T) {
	t.Parallel()
	for _, x := range []struct{ size, age int }{
		{1001, 0}, {1002, 5}, {65536, 0}, {65537, 0}, {1 << 20, 0}, {1, -1}, {1, 1 << 32}, {1, math.MinInt}, {1, math.MaxInt}, {1000, 1<<32 + 5}, {1001, -1},
	} {
		for _, lazy := range []bool{false, true} {
			a, _ := house(t)
			a.Lazy, a.Saved = lazy, tls.Saved{Ticket: make([]byte, x.size), Age: x.age}
			if s, said, e := tls.Dial(a); s != nil || len(said) > 0 || e != api.ErrForm {
				t.Errorf("a ticket of %d, Age %d, lazy %v: %v, %x, error %d", x.size, x.age, lazy, s, said, e)
			}
		}
	}
}

// What isn't needed to begin isn't looked at then.
func TestDialLooksAtNothingElse(t *testing.T) {
	t.Parallel()
	a, _ := house(t)
	_, want := dialed(t, a)
	a.Chain, a.Secret, a.Roots, a.Now = [][]byte{nil, make([]byte, 5000)}, [32]byte{}, nil, -1
	a.Saved, a.Tickets = tls.Saved{Psk: drawOf(1), Age: -5, Peer: cert.Cert{Subject: "x"}}, drawOf(2)
	if _, said := dialed(t, a); !bytes.Equal(said, want) {
		t.Errorf("%x, not %x", said, want)
	}
	if s := tls.Serve(tls.Config{}); s == nil {
		t.Error("no server of nothing")
	}
	if s, said, e := tls.Dial(tls.Config{}); s == nil || len(said) == 0 || e != api.OK {
		t.Errorf("no client of nothing: error %d", e)
	}
}

func TestServersThatAreWrong(t *testing.T) {
	t.Parallel()
	ticket := func(a, b *tls.Config) { a.Saved = saved(t) }
	lazyTicket := func(a, b *tls.Config) { a.Saved, a.Lazy = saved(t), true }
	retry := func(f *far, m *hello.Msg) { *m = hello.Msg{Kind: hello.Server, Retry: true} }
	none := func(f *far, m *hello.Msg) {}
	for _, x := range []struct {
		what    string
		config  func(a, b *tls.Config)
		retried bool
		change  func(f *far, m *hello.Msg)
		e       api.Errno
	}{
		{"a Session", unchanged, false, func(f *far, m *hello.Msg) { m.Session = []byte{0} }, api.ErrState},
		{"a long Session", unchanged, false, func(f *far, m *hello.Msg) { m.Session = sample.Filled(32, 1) }, api.ErrState},
		{"a Session behind a Retry", lazily, true, func(f *far, m *hello.Msg) { m.Session = []byte{0} }, api.ErrState},
		{"a Session and no point", unchanged, false, func(f *far, m *hello.Msg) { m.Session, m.Share = []byte{0}, make([]byte, 65) }, api.ErrState},
		{"a Retry with a Session", lazily, false, func(f *far, m *hello.Msg) {
			retry(f, m)
			m.Session = []byte{0}
		}, api.ErrState},
		{"a Retry to one that isn't lazy", unchanged, false, retry, api.ErrState},
		{"a Retry to one that isn't lazy, with a ticket", ticket, false, retry, api.ErrState},
		{"a second Retry", lazily, true, retry, api.ErrState},
		{"a second Retry, with a ticket", lazyTicket, true, retry, api.ErrState},
		{"a Server to one without a share", lazily, false, none, api.ErrState},
		{"a Server to one without a share, with a ticket", lazyTicket, false, func(f *far, m *hello.Msg) { m.Psk = true }, api.ErrState},
		{"no point to one without a share", lazily, false, func(f *far, m *hello.Msg) { m.Share = make([]byte, 65) }, api.ErrState},
		{"a ticket that wasn't shown", unchanged, false, func(f *far, m *hello.Msg) { m.Psk = true }, api.ErrState},
		{"a ticket that wasn't shown, behind a Retry", lazily, true, func(f *far, m *hello.Msg) { m.Psk = true }, api.ErrState},
		{"a ticket that wasn't shown, and no point", unchanged, false, func(f *far, m *hello.Msg) { m.Psk, m.Share = true, make([]byte, 65) }, api.ErrState},
		{"no point", unchanged, false, func(f *far, m *hello.Msg) { m.Share = make([]byte, 65) }, api.ErrPoint},
		{"no point behind a Retry", lazily, true, func(f *far, m *hello.Msg) { m.Share[64] ^= 1 }, api.ErrPoint},
		{"no point, by a ticket", ticket, false, func(f *far, m *hello.Msg) { m.Psk, m.Share = true, bytes.Repeat([]byte{255}, 65) }, api.ErrPoint},
	} {
		s, f := called(t, x.config)
		if x.retried {
			f.talks(s, f.sayRetry())
		}
		m := f.hi(nil)
		x.change(f, &m)
		isEnded(t, x.what, s, f, f.rec(record.Handshake, f.bytesOf(m)), x.e)
	}
	for i, b := range noPoints(t) {
		s, f := called(t, unchanged)
		m := f.hi(nil)
		m.Share = b
		isEnded(t, fmt.Sprint("no point ", i), s, f, f.say(m), api.ErrPoint)
	}
}

// A Server that came isn't answered by anything.
func TestServersAreNotAnswered(t *testing.T) {
	t.Parallel()
	s, f := called(t, unchanged)
	if out := fed(t, s, f.sayHi()); len(out) > 0 {
		t.Errorf("a Server is answered by %x", out)
	}
}

// A server passes over the ticket: the talk goes on in full, with the server's certificates.
func TestTicketsThatArePassedOver(t *testing.T) {
	t.Parallel()
	for _, lazy := range []bool{false, true} {
		s, f := called(t, func(a, b *tls.Config) {
			a.Saved, a.Lazy = saved(t), lazy
			a.Saved.Peer.Subject = "somebody"
		})
		if lazy {
			f.talks(s, f.sayRetry())
		}
		out := fed(t, s, f.begin())
		f.hear(out)
		said := f.end()
		f.talks(s, said)
		isDone(t, "a ticket that is passed over", s, f, read(t, serverCert(t)), false, true)
	}
}

// By a ticket the peer is that of Saved, whoever it is.
func TestPeersOfSaved(t *testing.T) {
	t.Parallel()
	for _, peer := range []cert.Cert{{}, {Subject: "x"}, {Serial: -5, Issuer: "\x00", Subject: string(make([]byte, 200)), From: 9, To: 1, Key: []byte{1}, CA: true, Path: 99, Uses: -1}} {
		s, f := called(t, func(a, b *tls.Config) {
			a.Saved = saved(t)
			a.Saved.Peer = peer
			a.Roots, a.Chain, a.Secret, a.Now = nil, nil, [32]byte{}, -1
		})
		f.counts(saved(t).Psk, "client")
		f.hear(fed(t, s, f.begin()))
		f.talks(s, f.end())
		isDone(t, fmt.Sprintf("%v", peer), s, f, peer, true, true)
		if v, ok := s.Saved(); !ok || !sameCert(v.Peer, peer) {
			t.Errorf("%v is kept as %v", peer, v.Peer)
		}
	}
}

// The server takes the ticket, but has another secret: nothing that it seals is opened.
func TestTicketsOfAnotherSecret(t *testing.T) {
	t.Parallel()
	s, f := called(t, func(a, b *tls.Config) { a.Saved = saved(t) })
	f.counts(drawOf(77), "client")
	said := f.begin()
	recs := recordsOf(t, said)
	fed(t, s, recs[0])
	out, e := s.Feed(recs[1])
	if e != api.ErrMac || len(out) == 0 || out[0] != 23 {
		t.Errorf("it answers %x, error %d", out, e)
	}
	isOver(t, "another secret", s)
}

// A client that can't say its flight.
func TestClientsThatCantProve(t *testing.T) {
	t.Parallel()
	order := curve.Order()
	for _, x := range []struct {
		what   string
		change func(a, b *tls.Config)
		e      api.Errno
	}{
		{"no secret", func(a, b *tls.Config) { a.Secret = [32]byte{} }, api.ErrArg},
		{"a secret that is too great", func(a, b *tls.Config) { a.Secret = order }, api.ErrArg},
		{"a long chain", func(a, b *tls.Config) { a.Chain = slices.Repeat(a.Chain, 6) }, api.ErrForm},
		{"an empty certificate", func(a, b *tls.Config) { a.Chain = [][]byte{{}} }, api.ErrForm},
		{"a great certificate", func(a, b *tls.Config) { a.Chain = append(slices.Clone(a.Chain), make([]byte, 2049)) }, api.ErrForm},
		{"a great certificate and no secret", func(a, b *tls.Config) { a.Chain, a.Secret = [][]byte{make([]byte, 2049)}, [32]byte{} }, api.ErrForm},
	} {
		s, f := called(t, x.change)
		isEnded(t, x.what, s, f, f.begin(), x.e)
	}
}

// Tickets, as many as come: the last one is kept.
func TestManyTickets(t *testing.T) {
	t.Parallel()
	p := place{paths()[0], len(paths()[0].steps) - 1}
	s, f := p.reached(t)
	for i := range 20 {
		m := hello.Msg{Kind: hello.Ticket, Life: i, Age: 1<<32 - 1 - i, Nonce: sample.Filled(1+i%8, i), Ticket: sample.Filled(1+i*52, i)}
		b := f.bytesOf(m)
		if i%3 == 0 { // another one ahead of it in the same record
			b = append(f.bytesOf(hello.Msg{Kind: hello.Ticket, Nonce: []byte{9}, Ticket: []byte{9}}), b...)
		}
		if out := fed(t, s, f.rec(record.Handshake, b)); len(out) > 0 {
			t.Errorf("ticket %d is answered by %x", i, out)
		}
		want := tls.Saved{Ticket: m.Ticket, Psk: f.again(m.Nonce), Age: m.Age, Peer: read(t, serverCert(t))}
		if v, ok := s.Saved(); !ok || !sameSaved(v, want) {
			t.Errorf("ticket %d: %v is kept, not %v", i, v, want)
		}
		if s.Committed() != (i >= 10) {
			t.Errorf("ticket %d: committed %v", i, s.Committed())
		}
		if i >= 9 { // and 00, as often as it comes
			fed(t, s, f.rec(record.Data, []byte{0}))
		}
	}
}

// A client takes MostUses records by one secret, and not one more.
func TestTooManyRecords(t *testing.T) {
	t.Parallel()
	p := place{paths()[0], len(paths()[0].steps)}
	s, f := p.reached(t)
	for f.seal.Used() < record.MostUses {
		fed(t, s, f.rec(record.Data, []byte{0}))
	}
	isEnded(t, "a record more", s, f, sealedInside(t, f.ours, record.MostUses, []byte{0, 23}), api.ErrSeq)
	if !s.Committed() {
		t.Error("one that failed was committed ahead of that")
	}
}
