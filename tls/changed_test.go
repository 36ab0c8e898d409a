package tls_test

import (
	"bytes"
	"fmt"
	"slices"
	"testing"

	"tollgate/api"
	"tollgate/cert"
	"tollgate/curve"
	"tollgate/hello"
	"tollgate/record"
	"tollgate/tls"
)

// flights are those of the test's end in a path, of which the last one is sealed; a server's one ahead of that begins bare.
func (p path) flights() []func(f *far) []byte {
	var list []func(f *far) []byte
	if p.server {
		if p.lazy {
			list = append(list, func(f *far) []byte { return f.say(f.client(false)) })
		}
		return append(list, func(f *far) []byte { return f.say(f.client(true)) },
			func(f *far) []byte { return f.rec(record.Handshake, f.last()) })
	}
	if p.lazy {
		list = append(list, (*far).sayRetry)
	}
	return append(list, (*far).begin, (*far).end)
}

// ahead is an end to which all flights ahead of the n-th one were said, and that one.
func (p path) ahead(t *testing.T, n int) (*tls.Side, *far, []byte) {
	t.Helper()
	s, f := p.begun(t)
	list := p.flights()
	for _, say := range list[:n] {
		f.talks(s, say(f))
	}
	return s, f, list[n](f)
}

// eachChange changes each byte of the n-th flight, or some of them; those that stand ahead of a record in each bit.
func eachChange(t *testing.T, p path, n int, do func(t *testing.T, what string, s *tls.Side, f *far, right, b []byte, at int)) {
	t.Helper()
	_, _, right := p.ahead(t, n)
	heads := map[int]bool{}
	start := 0
	for _, rec := range recordsOf(t, right) {
		for i := range 9 {
			heads[start+i] = true
		}
		start += len(rec)
	}
	for i := range right {
		masks := []byte{1 << (i % 8)}
		if heads[i] {
			masks = []byte{1, 2, 4, 8, 16, 32, 64, 128}
		} else if p.lazy && i%3 > 0 {
			continue
		}
		for _, mask := range masks {
			s, f, b := p.ahead(t, n)
			right := bytes.Clone(b)
			b[i] ^= mask
			do(t, fmt.Sprintf("%s, flight %d: byte %d changed by %d", p.what, n, i, mask), s, f, right, b, i)
		}
	}
}

// sealedError is that of sealed records of which one was changed.
func sealedError(b, right []byte) api.Errno {
	for len(b) > 0 {
		rec, rest, e := record.Cut(b)
		if e != api.OK {
			return e
		}
		if !bytes.HasPrefix(right, rec) {
			return unsealed(int(rec[0]))
		}
		b, right = rest, right[len(rec):]
	}
	return api.OK
}

// bareMessage is the message of a bare record, or the error of that.
func bareMessage(b []byte) (hello.Msg, api.Errno) {
	rec, _, e := record.Cut(b)
	if e != api.OK {
		return hello.Msg{}, e
	}
	kind, body, e := record.Body(rec)
	switch {
	case e != api.OK:
		return hello.Msg{}, e
	case kind == record.Alert:
		return hello.Msg{}, api.ErrAlert
	case kind == record.Data:
		return hello.Msg{}, api.ErrState
	}
	m, _, e := hello.Read(body)
	return m, e
}

func isPoint(b []byte) bool {
	_, e := curve.Read(b)
	return e == api.OK
}

func TestChangedSealedFlights(t *testing.T) {
	t.Parallel()
	for _, p := range paths() {
		t.Run(p.what, func(t *testing.T) {
			t.Parallel()
			eachChange(t, p, len(p.flights())-1, func(t *testing.T, what string, s *tls.Side, f *far, right, b []byte, at int) {
				isEnded(t, what, s, f, b, sealedError(b, right))
			})
		})
	}
}

// A server's first flight: a Server, and a sealed record.
func TestChangedServers(t *testing.T) {
	t.Parallel()
	for _, p := range paths() {
		if p.server {
			continue
		}
		t.Run(p.what, func(t *testing.T) {
			t.Parallel()
			eachChange(t, p, len(p.flights())-2, func(t *testing.T, what string, s *tls.Side, f *far, right, b []byte, at int) {
				size := len(recordsOf(t, right)[0])
				if at >= size {
					isEnded(t, what, s, f, b, sealedError(b[size:], right[size:]))
					return
				}
				m, e := bareMessage(b)
				switch {
				case e != api.OK:
					f.open = nil
				case at == 3 || at == 4: // some sealed bytes count to the bare record
					_, _, e = hello.Read(b[size:])
				case !isPoint(m.Share):
					e, f.open = api.ErrPoint, nil
				default: // it isn't what the other end said, so they have no secret together
					g := newFar(t, tls.Config{Draw: drawOf(1), Saved: tls.Saved{Psk: f.psk}}, false)
					g.all = bytes.Clone(f.all[:f.atHi])
					g.hear(b[:size])
					e, f.open = api.ErrMac, record.New(g.ours)
				}
				isEnded(t, what, s, f, b, e)
			})
		})
	}
}

func TestChangedRetries(t *testing.T) {
	t.Parallel()
	for _, p := range paths() {
		if p.server || !p.lazy {
			continue
		}
		eachChange(t, p, 0, func(t *testing.T, what string, s *tls.Side, f *far, right, b []byte, at int) {
			_, e := bareMessage(b)
			isEnded(t, what, s, f, b, e)
		})
	}
}

func TestChangedClients(t *testing.T) {
	t.Parallel()
	for _, p := range paths() {
		if !p.server {
			continue
		}
		for n := range len(p.flights()) - 1 {
			t.Run(fmt.Sprint(p.what, n), func(t *testing.T) {
				t.Parallel()
				eachChange(t, p, n, func(t *testing.T, what string, s *tls.Side, f *far, right, b []byte, at int) {
					isChangedClient(t, p, n, what, s, f, right, b)
				})
			})
		}
	}
}

// isChangedClient: a changed Client is refused, or answered as if it had been said so.
func isChangedClient(t *testing.T, p path, n int, what string, s *tls.Side, f *far, right, b []byte) {
	t.Helper()
	was, _ := bareMessage(right)
	m, e := bareMessage(b)
	again := p.lazy && n == 1
	counts := m.Psk && bytes.Equal(m.Ticket, f.c.Saved.Ticket)
	switch {
	case e != api.OK:
	case again && (m.Random != was.Random || !bytes.Equal(m.Session, was.Session)):
		e = api.ErrState
	case len(m.Share) > 0 && counts:
		e = api.ErrMac
	case len(m.Share) > 0 && !isPoint(m.Share):
		e = api.ErrPoint
	}
	if e != api.OK {
		isEnded(t, what, s, f, b, e)
		return
	}
	g := newFar(t, tls.Config{Chain: [][]byte{serverCert(t)}, Secret: secretOf(serverNumber), Draw: drawOf(2)}, true)
	if p.resumed {
		g = newFar(t, tls.Config{Chain: [][]byte{serverCert(t)}, Secret: secretOf(serverNumber), Draw: drawOf(7)}, true)
	}
	g.all = bytes.Clone(f.all[:len(f.all)-(len(right)-5)])
	g.hear(b)
	want := (*far).begin
	if len(m.Share) == 0 {
		want = (*far).sayRetry
	}
	if got, wanted := fed(t, s, b), want(g); !bytes.Equal(got, wanted) {
		t.Errorf("%s: %x, not %x", what, got, wanted)
	}
}

// A byte left out of a flight, or one added; and flights cut short.
func TestBytesLeftOutOrAdded(t *testing.T) {
	t.Parallel()
	for _, p := range paths() {
		t.Run(p.what, func(t *testing.T) {
			t.Parallel()
			last := len(p.flights()) - 1
			_, _, right := p.ahead(t, last)
			for i := 0; i < len(right); i += 1 + len(right)/40 {
				s, f, b := p.ahead(t, last)
				short := slices.Delete(bytes.Clone(b), i, i+1)
				isEnded(t, fmt.Sprintf("%s: byte %d is left out", p.what, i), s, f, short, sealedError(short, b))
				s, f, b = p.ahead(t, last)
				long := slices.Insert(bytes.Clone(b), i, 0x5A)
				isEnded(t, fmt.Sprintf("%s: a byte at %d", p.what, i), s, f, long, sealedError(long, b))
				s, f, b = p.ahead(t, last)
				if i == 0 || sealedError(b[:i], b) == api.OK {
					continue
				}
				isEnded(t, fmt.Sprintf("%s: cut at %d", p.what, i), s, f, b[:i], api.ErrTail)
			}
		})
	}
}

// Whatever is changed of what is said, both ends are never done; and who is done of a client is one that the server knows.
func TestOneChangeAndBothAreNotDone(t *testing.T) {
	t.Parallel()
	a, b := house(t)
	want := wordsOf(t, a, b)
	for n := range 3 {
		for at := 0; at < len(want.flights[n]); at += 5 {
			c, next := dialed(t, a)
			s := tls.Serve(b)
			to, other := s, c
			for i := 0; len(next) > 0 && i < 10; i++ {
				if i == n {
					next[at] ^= 0x10
				}
				next, _ = to.Feed(next)
				to, other = other, to
			}
			if c.Done() && s.Done() || s.Done() && !sameCert(s.Peer(), read(t, clientCert(t))) || c.Committed() {
				t.Errorf("byte %d of flight %d is changed, and both are done", at, n)
			}
		}
	}
}

// What is random makes no difference to who is known, nor does a changed certificate get by.
func TestChangedCertificates(t *testing.T) {
	t.Parallel()
	for _, server := range []bool{true, false} {
		whose, use := serverCert(t), cert.Server
		if server {
			whose, use = clientCert(t), cert.Client
		}
		for at := 0; at < len(whose); at += 3 {
			s, f := proving(t, server, false, false, hello.Certs)
			f.c.Chain = [][]byte{bytes.Clone(whose)}
			f.c.Chain[0][at] ^= 1 << (at % 8)
			want := api.ErrForm
			if c, e := cert.Read(f.c.Chain[0]); e == api.OK {
				want = api.ErrTrust
				if c.From > 50 || c.To < 50 {
					want = api.ErrTime
				} else if c.Uses&(cert.Sign|use) != cert.Sign|use {
					want = api.ErrUse
				}
			}
			isEnded(t, fmt.Sprintf("a server %v: byte %d of a certificate", server, at), s, f, f.say(f.certs()), want)
		}
	}
}
