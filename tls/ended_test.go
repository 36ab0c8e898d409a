package tls_test

import (
	"bytes"
	"fmt"
	"testing"

	"tollgate/api"
	"tollgate/hello"
	"tollgate/record"
	"tollgate/sample"
	"tollgate/tls"
)

// codeOf is the alert's code that the document names.
func codeOf(e api.Errno) byte {
	switch e {
	case api.ErrForm, api.ErrTail, api.ErrBig:
		return 50
	case api.ErrMac, api.ErrSig:
		return 51
	case api.ErrTime:
		return 45
	case api.ErrTrust:
		return 48
	case api.ErrUse:
		return 43
	case api.ErrState:
		return 10
	case api.ErrPoint:
		return 47
	case api.ErrWeak:
		return 40
	}
	return 80
}

// isEnded: these bytes end the talk, by an error, of which the other end is told.
func isEnded(t *testing.T, what string, s *tls.Side, f *far, b []byte, want api.Errno) {
	t.Helper()
	out, e := s.Feed(b)
	if e != want {
		t.Errorf("%s: error %d, not %d", what, e, want)
	}
	isAlert(t, what, f.open, out, want)
	isOver(t, what, s)
}

// isAlert: what is said of an error is just an alert, which is opened by a half, or is bare.
func isAlert(t *testing.T, what string, open *record.Half, out []byte, want api.Errno) {
	t.Helper()
	if want == api.ErrAlert {
		if len(out) > 0 {
			t.Errorf("%s: an alert is answered by %x", what, out)
		}
		return
	}
	if open == nil {
		if !bytes.Equal(out, []byte{21, 3, 3, 0, 2, 2, codeOf(want)}) {
			t.Errorf("%s: no bare alert for error %d: %x", what, want, out)
		}
		return
	}
	kind, b, e := open.Open(out)
	if e != api.OK || kind != record.Alert || !bytes.Equal(b, []byte{2, codeOf(want)}) {
		t.Errorf("%s: no sealed alert for error %d: %x holds %x of kind %d, error %d", what, want, out, b, kind, e)
	}
}

// isOver: an end that failed tells nothing, and takes nothing any more.
func isOver(t *testing.T, what string, s *tls.Side) {
	t.Helper()
	if !s.Failed() {
		t.Errorf("%s: it hasn't failed", what)
	}
	tellsNothing(t, what, s)
	for _, b := range [][]byte{nil, {0}, {21, 3, 3, 0, 2, 2, 40}, {22, 3, 3, 0, 6, 8, 0, 0, 2, 0, 0}, {23, 3, 3, 0, 1, 0}, sample.Filled(50, 1)} {
		if out, e := s.Feed(b); e != api.ErrState || len(out) > 0 || !s.Failed() {
			t.Errorf("%s: %x is fed to one that failed: %x, error %d", what, b, out, e)
		}
	}
}

// anyMessages are in form, one of each kind at least, but right at no place.
func anyMessages(t *testing.T) []hello.Msg {
	t.Helper()
	share := newFar(t, tls.Config{Draw: drawOf(5)}, false).share
	return []hello.Msg{
		{Kind: hello.Client, Random: drawOf(1), Share: share},
		{Kind: hello.Client},
		{Kind: hello.Client, Share: share, Psk: true, Ticket: []byte{1}},
		{Kind: hello.Server, Random: drawOf(1), Share: share},
		{Kind: hello.Server, Share: share, Psk: true},
		{Kind: hello.Server, Retry: true},
		{Kind: hello.Ticket, Nonce: []byte{0}, Ticket: []byte{1}},
		{Kind: hello.Extensions},
		{Kind: hello.Certs, Certs: [][]byte{serverCert(t)}},
		{Kind: hello.Certs},
		{Kind: hello.Request},
		{Kind: hello.Verify, Sig: []byte{1}},
		{Kind: hello.Finished},
	}
}

// Each message at each place where another one, or none, is waited for.
func TestWrongOrder(t *testing.T) {
	t.Parallel()
	eachPlace(t, func(t *testing.T, p place) {
		for i, m := range anyMessages(t) {
			if m.Kind == p.waits() {
				continue
			}
			s, f := p.reached(t)
			isEnded(t, fmt.Sprintf("%s: message %d, of kind %d", p.what(), i, m.Kind), s, f, f.rec(record.Handshake, f.bytesOf(m)), api.ErrState)
		}
	})
}

// What an end says itself doesn't come to it; nor does what came already.
func TestTheSameTwice(t *testing.T) {
	t.Parallel()
	eachPlace(t, func(t *testing.T, p place) {
		if p.passed == 0 || p.done() && !p.server {
			return
		}
		last := p
		last.passed--
		if last.waits() == p.waits() {
			return // of a second Client and a second Server elsewhere
		}
		s, f := p.reached(t)
		m := map[int]func() hello.Msg{
			hello.Client:     func() hello.Msg { return f.client(true) },
			hello.Server:     func() hello.Msg { return f.hi(nil) },
			hello.Extensions: func() hello.Msg { return hello.Msg{Kind: hello.Extensions} },
			hello.Request:    func() hello.Msg { return hello.Msg{Kind: hello.Request} },
			hello.Certs:      f.certs,
			hello.Verify:     f.verify,
			hello.Finished:   f.finished,
		}[last.waits()]()
		isEnded(t, p.what()+": the last message once more", s, f, f.rec(record.Handshake, f.bytesOf(m)), api.ErrState)
	})
}

// Each message left out of a right talk.
func TestLeftOut(t *testing.T) {
	t.Parallel()
	for _, p := range paths() {
		for i := 0; i+1 < len(p.steps); i++ {
			if p.steps[i].kind == p.steps[i+1].kind || p.steps[i].kind == hello.Client || p.steps[i].kind == hello.Server {
				continue
			}
			s, f := place{p, i}.reached(t)
			m := hello.Msg{Kind: p.steps[i+1].kind}
			switch m.Kind {
			case hello.Certs:
				m = f.certs()
			case hello.Verify:
				m = f.verify()
			case hello.Finished:
				m = f.finished()
			case hello.Ticket:
				m = f.ticket()
			}
			isEnded(t, fmt.Sprintf("%s: message %d is left out", p.what, i), s, f, f.rec(record.Handshake, f.bytesOf(m)), api.ErrState)
		}
	}
}

// Bytes in a Handshake record that aren't messages, wholly.
func TestNoMessages(t *testing.T) {
	t.Parallel()
	finished := append([]byte{20, 0, 0, 32}, make([]byte, 32)...)
	eachPlace(t, func(t *testing.T, p place) {
		for _, x := range []struct {
			b []byte
			e api.Errno
		}{
			{nil, api.ErrForm},
			{[]byte{0}, api.ErrForm}, {[]byte{0, 0, 0, 0}, api.ErrForm}, {[]byte{3, 0, 0, 0}, api.ErrForm}, {[]byte{5, 0, 0, 0}, api.ErrForm},
			{[]byte{24, 0, 0, 1, 0}, api.ErrForm}, {[]byte{254, 0, 0, 0}, api.ErrForm},
			{[]byte{8}, api.ErrTail}, {[]byte{8, 0, 0}, api.ErrTail}, {[]byte{8, 0, 0, 2}, api.ErrTail}, {[]byte{8, 0, 0, 2, 0}, api.ErrTail},
			{finished[:35], api.ErrTail}, {finished[:4], api.ErrTail},
			{[]byte{8, 0, 0x80, 1}, api.ErrBig}, {[]byte{1, 255, 255, 255}, api.ErrBig}, {[]byte{11, 0, 0x80, 0}, api.ErrTail},
			{[]byte{8, 0, 0, 2, 0, 1}, api.ErrForm}, {[]byte{8, 0, 0, 0}, api.ErrForm}, {[]byte{1, 0, 0, 0}, api.ErrForm},
			{[]byte{20, 0, 0, 1, 0}, api.ErrForm}, {[]byte{13, 0, 0, 0}, api.ErrForm}, {[]byte{15, 0, 0, 0}, api.ErrForm},
		} {
			s, f := p.reached(t)
			isEnded(t, fmt.Sprintf("%s: %x in a Handshake record", p.what(), x.b), s, f, f.rec(record.Handshake, x.b), x.e)
		}
	})
}

// Records of each kind at each place: sealed where they must be, and otherwise.
func TestRecordsAtEachPlace(t *testing.T) {
	t.Parallel()
	eachPlace(t, func(t *testing.T, p place) {
		for _, x := range recordCases() {
			s, f := p.reached(t)
			want := x.e
			if f.seal != nil && x.bare {
				want = unsealed(x.kind)
			}
			b := f.rec(x.kind, x.b)
			if x.bare {
				b = append([]byte{byte(x.kind), 3, 3, byte(len(x.b) >> 8), byte(len(x.b))}, x.b...)
			}
			what := fmt.Sprintf("%s: a record of kind %d, bare %v, with %.20x", p.what(), x.kind, x.bare, x.b)
			if f.seal != nil && x.kind == record.Data && !x.bare && string(x.b) == "\x00" && p.done() && !p.server {
				if out := fed(t, s, b); len(out) > 0 || !s.Committed() {
					t.Errorf("%s: %x, committed %v", what, out, s.Committed())
				}
				p.goesOn(t, s, f)
				continue
			}
			isEnded(t, what, s, f, b, want)
		}
	})
}

// unsealed is what is wrong with a bare record where a sealed one must come.
func unsealed(kind int) api.Errno {
	if kind == record.Data {
		return api.ErrMac
	}
	return api.ErrForm
}

type recordCase struct {
	kind int
	b    []byte
	bare bool
	e    api.Errno // where it is taken as it must be
}

func recordCases() []recordCase {
	var list []recordCase
	for _, bare := range []bool{false, true} {
		for _, b := range [][]byte{nil, {0}, {1, 0}, {2, 40}, {2, 0}, {2, 40, 0}, {22}, sample.Filled(300, 1)} {
			list = append(list, recordCase{record.Alert, b, bare, api.ErrAlert})
		}
		for _, b := range [][]byte{nil, {0}, {1}, {0, 0}, {0, 1}, {1, 0}, {255}, []byte("0"), sample.Filled(300, 1)} {
			list = append(list, recordCase{record.Data, b, bare, api.ErrState})
		}
		list = append(list, recordCase{record.Handshake, nil, bare, api.ErrForm})
	}
	return list
}

// Bytes that no records are.
func TestNoRecords(t *testing.T) {
	t.Parallel()
	eachPlace(t, func(t *testing.T, p place) {
		for _, x := range []struct {
			b []byte
			e api.Errno
		}{
			{[]byte{0}, api.ErrForm}, {[]byte{20}, api.ErrForm}, {[]byte{20, 3, 3, 0, 1, 1}, api.ErrForm}, {[]byte{24}, api.ErrForm},
			{[]byte{22}, api.ErrTail}, {[]byte{22, 3, 3, 0}, api.ErrTail}, {[]byte{22, 3, 3, 0, 1}, api.ErrTail}, {[]byte{23, 3, 3, 65, 0}, api.ErrTail},
			{[]byte{22, 3, 1}, api.ErrForm}, {[]byte{22, 2}, api.ErrForm}, {[]byte{22, 3, 3, 65, 1}, api.ErrBig}, {[]byte{22, 3, 3, 255, 255}, api.ErrBig},
			{[]byte("GET / HTTP/1.0"), api.ErrForm},
		} {
			s, f := p.reached(t)
			isEnded(t, fmt.Sprintf("%s: %x", p.what(), x.b), s, f, x.b, x.e)
		}
	})
}

// A record that holds more than MaxRecord bytes: bare, and sealed.
func TestTooMuchInARecord(t *testing.T) {
	t.Parallel()
	eachPlace(t, func(t *testing.T, p place) {
		s, f := p.reached(t)
		b := append([]byte{22, 3, 3, 0x40, 1}, make([]byte, api.MaxRecord+1)...)
		if f.seal != nil {
			b = sealedInside(t, f.ours, f.seal.Used(), append(make([]byte, api.MaxRecord+1), 22))
		}
		isEnded(t, p.what()+": too much in a record", s, f, b, api.ErrBig)
	})
}

// A sealed record within which nothing is right.
func TestWrongWithin(t *testing.T) {
	t.Parallel()
	eachPlace(t, func(t *testing.T, p place) {
		for _, inside := range [][]byte{nil, {0}, make([]byte, 40), {8, 0, 0, 2, 0, 0, 20}, {8, 0, 0, 2, 0, 0, 24}, {255}} {
			s, f := p.reached(t)
			if f.seal != nil {
				b := sealedInside(t, f.ours, f.seal.Used(), inside)
				isEnded(t, fmt.Sprintf("%s: %x within", p.what(), inside), s, f, b, api.ErrForm)
			}
		}
	})
}
