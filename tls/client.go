package tls

import (
	"tollgate/api"
	"tollgate/curve"
	"tollgate/hello"
	"tollgate/keys"
)

// sayClient says a Client, with a share or without.
func (s *Side) sayClient(shares bool) ([]byte, error) {
	h := s.hand
	m := hello.Msg{Kind: hello.Client, Random: drawn(h.own.Draw, randomName)}
	if shares {
		h.shares = true
		h.scalar, m.Share = drawnShare(h.own.Draw)
	}
	if h.offers() {
		saved := h.own.Saved
		m.Psk, m.Ticket, m.Age = true, saved.Ticket, saved.Age
		// The mark itself isn't among what it is of. What can't be written so can't be written with a mark, either.
		unmarked, _ := hello.Write(m)
		m.Mark = markOf(h.all, saved.Psk, unmarked)
	}
	f := s.newFlight()
	f.say(m)
	return f.record()
}

// offers: does a client show a ticket?
func (h *handshake) offers() bool { return len(h.own.Saved.Ticket) > 0 }

func (s *Side) hearServer(m heard) ([]byte, error) {
	h := s.hand
	// A Retry asks for the share that wasn't sent; anything else needs one that was.
	if len(m.Session) > 0 || m.Retry == h.shares || m.Psk && !h.offers() {
		return nil, fault(api.ErrState)
	}
	if m.Retry {
		h.restart()
		h.all.Put(m.bytes)
		return s.sayClient(true)
	}
	shared, e := curve.Shared(h.scalar, m.Share)
	if e != api.OK {
		return nil, fault(e)
	}
	h.all.Put(m.bytes)
	var psk [32]byte
	if m.Psk {
		s.resumed = true
		psk, h.peer = h.own.Saved.Psk, h.own.Saved.Peer
	}
	s.meet(psk, shared)
	s.wait(hello.Extensions, (*Side).hearExtensions)
	return nil, nil
}

func (s *Side) hearExtensions(m heard) ([]byte, error) {
	s.hand.all.Put(m.bytes)
	if s.resumed {
		s.wait(hello.Finished, (*Side).hearFinished)
	} else {
		s.wait(hello.Request, (*Side).hearRequest)
	}
	return nil, nil
}

func (s *Side) hearRequest(m heard) ([]byte, error) {
	s.hand.all.Put(m.bytes)
	s.wait(hello.Certs, (*Side).hearCerts)
	return nil, nil
}

// sayLast says a client's own flight, behind which it is done.
func (s *Side) sayLast() ([]byte, error) {
	s.hand.sum = s.hand.all.Sum()
	f := s.newFlight()
	f.close()
	said, err := f.record()
	if err != nil {
		return nil, err
	}
	resume := s.finish()
	s.agreed.resume = resume
	s.wait(hello.Ticket, (*Side).hearTicket)
	return said, nil
}

func (s *Side) hearTicket(m heard) ([]byte, error) {
	a := &s.agreed
	a.ticket, a.psk, a.age = m.Ticket, keys.Again(a.resume, m.Nonce), m.Age
	return nil, nil
}
