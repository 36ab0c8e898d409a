package tls_test

import (
	"fmt"
	"testing"

	"tollgate/cert"
	"tollgate/hello"
	"tollgate/record"
	"tollgate/tls"
)

// step is one message that an end waits for: the test's end says it, and hears the answer.
type step struct {
	kind int
	do   func(s *tls.Side, f *far)
}

// path is a right talk of an end with one that the test plays, message by message, each in a record of its own.
type path struct {
	what    string
	server  bool
	lazy    bool
	resumed bool
	steps   []step
}

// place is a path behind some of its steps.
type place struct {
	path
	passed int
}

func (f *far) talks(s *tls.Side, b []byte) []hello.Msg {
	f.t.Helper()
	return f.hear(fed(f.t, s, b))
}

func clientSteps(lazy, resumed bool) []step {
	var list []step
	add := func(kind int, do func(s *tls.Side, f *far)) { list = append(list, step{kind, do}) }
	if lazy {
		add(hello.Server, func(s *tls.Side, f *far) { f.talks(s, f.sayRetry()) })
	}
	add(hello.Server, func(s *tls.Side, f *far) { f.talks(s, f.sayHi()) })
	add(hello.Extensions, func(s *tls.Side, f *far) { f.talks(s, f.say(hello.Msg{Kind: hello.Extensions})) })
	if !resumed {
		add(hello.Request, func(s *tls.Side, f *far) { f.talks(s, f.say(hello.Msg{Kind: hello.Request})) })
		add(hello.Certs, func(s *tls.Side, f *far) { f.talks(s, f.say(f.certs())) })
		add(hello.Verify, func(s *tls.Side, f *far) { f.talks(s, f.say(f.verify())) })
	}
	add(hello.Finished, func(s *tls.Side, f *far) {
		said := f.say(f.finished())
		f.sum = f.now()
		f.talks(s, said)
		f.done()
	})
	add(hello.Ticket, func(s *tls.Side, f *far) { f.talks(s, f.rec(record.Handshake, f.bytesOf(f.ticket()))) })
	return list
}

func serverSteps(lazy, resumed bool) []step {
	var list []step
	add := func(kind int, do func(s *tls.Side, f *far)) { list = append(list, step{kind, do}) }
	if lazy {
		add(hello.Client, func(s *tls.Side, f *far) { f.talks(s, f.say(f.client(false))) })
	}
	add(hello.Client, func(s *tls.Side, f *far) { f.talks(s, f.say(f.client(true))) })
	if !resumed {
		add(hello.Certs, func(s *tls.Side, f *far) { f.talks(s, f.say(f.certs())) })
		add(hello.Verify, func(s *tls.Side, f *far) { f.talks(s, f.say(f.verify())) })
	}
	add(hello.Finished, func(s *tls.Side, f *far) {
		said := fed(f.t, s, f.say(f.finished()))
		f.done()
		f.hear(said)
	})
	return list
}

func paths() []path {
	var list []path
	for _, lazy := range []bool{false, true} {
		for _, resumed := range []bool{false, true} {
			how := fmt.Sprintf(", lazy %v, resumed %v", lazy, resumed)
			list = append(list, path{"a client" + how, false, lazy, resumed, clientSteps(lazy, resumed)},
				path{"a server" + how, true, lazy, resumed, serverSteps(lazy, resumed)})
		}
	}
	return list
}

// places are all that there are, those at the end too.
func places() []place {
	var list []place
	for _, p := range paths() {
		for n := range len(p.steps) + 1 {
			list = append(list, place{p, n})
		}
	}
	return list
}

// eachPlace does something at each place, side by side.
func eachPlace(t *testing.T, do func(t *testing.T, p place)) {
	t.Helper()
	for _, p := range places() {
		t.Run(p.what(), func(t *testing.T) {
			t.Parallel()
			do(t, p)
		})
	}
}

func (p place) what() string { return fmt.Sprintf("%s, behind %d messages", p.path.what, p.passed) }

// waits is the kind of message that is waited for; 0: none.
func (p place) waits() int {
	if p.passed < len(p.steps) {
		return p.steps[p.passed].kind
	}
	if p.server {
		return 0
	}
	return hello.Ticket
}

// done: is the end done there?
func (p place) done() bool { return p.waits() == 0 || p.waits() == hello.Ticket }

// begun is both ends, ahead of all steps.
func (p path) begun(t *testing.T) (*tls.Side, *far) {
	t.Helper()
	a, b := house(t)
	a.Lazy = p.lazy
	if p.resumed {
		a.Saved, b.Draw = saved(t), drawOf(7)
	}
	if p.server {
		return tls.Serve(b), newFar(t, a, false)
	}
	f := newFar(t, b, true)
	s, first := dialed(t, a)
	f.hear(first)
	if p.resumed {
		f.counts(a.Saved.Psk, "client")
	}
	return s, f
}

// reached is both ends at a place.
func (p place) reached(t *testing.T) (*tls.Side, *far) {
	t.Helper()
	s, f := p.begun(t)
	for _, x := range p.steps[:p.passed] {
		x.do(s, f)
	}
	return s, f
}

// goesOn: the talk comes to its right end.
func (p place) goesOn(t *testing.T, s *tls.Side, f *far) {
	t.Helper()
	for _, x := range p.steps[p.passed:] {
		x.do(s, f)
	}
	if !p.server {
		f.talks(s, f.rec(record.Data, []byte{0}))
	}
	if p.server && (len(f.data) != 1 || string(f.data[0]) != "\x00") {
		t.Errorf("%s: not committed by %x", p.what(), f.data)
	}
	peer := p.peer(t)
	isDone(t, p.what(), s, f, peer, p.resumed, !p.server)
	if v, ok := s.Saved(); ok == p.server || !p.server && !sameCert(v.Peer, peer) {
		t.Errorf("%s: keeps %v", p.what(), v)
	}
}

// peer is who is at the other end.
func (p place) peer(t *testing.T) cert.Cert {
	t.Helper()
	switch {
	case p.server && p.resumed:
		return cert.Cert{Subject: "client"}
	case p.server:
		return read(t, clientCert(t))
	}
	return read(t, serverCert(t))
}
