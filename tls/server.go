package tls

import (
	"bytes"

	"tollgate/api"
	"tollgate/cert"
	"tollgate/curve"
	"tollgate/hello"
	"tollgate/keys"
	"tollgate/mac"
	"tollgate/record"
)

// ticketNonce is the number of a talk's ticket: it is the only one.
const ticketNonce = "\x00"

func (s *Side) hearClient(m heard) ([]byte, error) {
	h := s.hand
	if h.first != nil && (m.Random != h.first.Random || !bytes.Equal(m.Session, h.first.Session)) {
		return nil, fault(api.ErrState)
	}
	if len(m.Share) == 0 {
		return s.sayRetry(m)
	}
	psk, err := s.resume(m)
	if err != nil {
		return nil, err
	}
	scalar, share := drawnShare(h.own.Draw)
	shared, e := curve.Shared(scalar, m.Share)
	if e != api.OK {
		return nil, fault(e)
	}
	h.all.Put(m.bytes)
	f := s.newFlight()
	f.say(hello.Msg{Kind: hello.Server, Random: drawn(h.own.Draw, randomName), Session: m.Session, Share: share, Psk: s.resumed})
	said, err := f.record()
	if err != nil {
		return nil, err
	}
	s.meet(psk, shared)
	rest, err := s.sayFlight()
	return append(said, rest...), err
}

// sayRetry asks for a share, once.
func (s *Side) sayRetry(m heard) ([]byte, error) {
	h := s.hand
	if h.first != nil {
		return nil, fault(api.ErrWeak)
	}
	h.first = &hello.Msg{Random: m.Random, Session: m.Session}
	h.all.Put(m.bytes)
	h.restart()
	f := s.newFlight()
	f.say(hello.Msg{Kind: hello.Server, Retry: true, Session: m.Session})
	return f.record()
}

// resume is the secret of a ticket that counts, or noughts. Who shows a ticket that counts must have its secret.
func (s *Side) resume(m heard) ([32]byte, error) {
	h := s.hand
	p, ok := passOf(h.own.Tickets, m.Ticket)
	if !ok || p.until < h.own.Now {
		return [32]byte{}, nil
	}
	mark := markOf(h.all, p.secret, m.bytes)
	if !mac.Same(m.Mark[:], mark[:]) {
		return [32]byte{}, fault(api.ErrMac)
	}
	s.resumed = true
	h.peer = cert.Cert{Subject: p.subject}
	return p.secret, nil
}

// sayFlight says what a server says sealed, and waits for the client's own flight.
func (s *Side) sayFlight() ([]byte, error) {
	f := s.newFlight()
	f.say(hello.Msg{Kind: hello.Extensions})
	if s.resumed {
		s.wait(hello.Finished, (*Side).hearFinished)
	} else {
		f.say(hello.Msg{Kind: hello.Request})
		s.wait(hello.Certs, (*Side).hearCerts)
	}
	f.close()
	s.hand.sum = s.hand.all.Sum()
	return f.record()
}

// sayTicket is what a server says when it is done: a ticket for another time, and that all is well.
func (s *Side) sayTicket() ([]byte, error) {
	own, client := s.hand.own, s.hand.peer.Subject
	secret := keys.Again(s.finish(), []byte(ticketNonce))
	p := pass{secret: secret, until: own.Now + ticketLife, subject: client}
	b, e := hello.Write(hello.Msg{Kind: hello.Ticket, Life: ticketLife, Age: drawnAge(own.Draw), Nonce: []byte(ticketNonce),
		Ticket: p.ticket(own.Tickets, drawnNonce(own.Draw))})
	if e != api.OK {
		return nil, fault(e)
	}
	said, err := s.record(record.Handshake, b)
	if err != nil {
		return nil, err
	}
	s.wait(0, nil)
	end, err := s.record(record.Data, []byte(commit))
	return append(said, end...), err
}
