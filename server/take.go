package server

import (
	"bytes"
	"errors"
	"maps"
	"slices"

	"tollgate/api"
	"tollgate/eap"
	"tollgate/piece"
	"tollgate/radius"
)

// exchange is an Ask, and what was answered to it.
type exchange struct {
	asked, said []byte
}

// empty: a server that New didn't make counts as none.
func (s *Server) empty() bool { return s == nil || s.talks == nil }

func (s *Server) take(b []byte) ([]byte, error) {
	asked, e := radius.Open(b, s.own.Secret)
	if e != api.OK {
		return nil, silence{fault(e)}
	}
	if said, ok := s.saidTo(b); ok {
		return said, nil
	}
	r, err := responseIn(asked)
	if err != nil {
		return nil, err
	}
	t, answer, err := s.hear(asked, r)
	if err != nil {
		return nil, err
	}
	answer.Id = asked.Id
	said, e := radius.Reply(answer, asked.Auth, s.own.Secret)
	if e != api.OK {
		s.end(t)
		return nil, silence{errUnsealed}
	}
	s.settle(t, answer.Code)
	s.kept = pushed(s.kept, exchange{asked: bytes.Clone(b), said: said}, s.own.Answers)
	return bytes.Clone(said), nil
}

func responseIn(asked radius.Packet) (eap.Packet, error) {
	r, e := eap.Read(radius.Join(asked.Attrs))
	if e != api.OK {
		return eap.Packet{}, silence{fault(e)}
	}
	if r.Code != eap.Response {
		return eap.Packet{}, silence{fault(api.ErrForm)}
	}
	return r, nil
}

// hear is a talk, and what it answers to a Response.
func (s *Server) hear(asked radius.Packet, r eap.Packet) (*talk, radius.Packet, error) {
	key, ok := radius.Find(asked.Attrs, radius.State)
	if !ok {
		return s.begin(r)
	}
	t := s.talkOf(key)
	if t == nil {
		return nil, radius.Packet{}, silence{errMiss}
	}
	said, err := t.hear(r)
	var none silence
	switch {
	case errors.As(err, &none):
		return nil, radius.Packet{}, none
	case err != nil:
		return t, reject(r.Id), nil
	case t.method.Done():
		return t, t.accept(r.Id, asked.Auth, s.own.Secret), nil
	}
	return t, t.challenge(r.Id, said), nil
}

// begin: who says who he is has a talk, if there is room.
func (s *Server) begin(r eap.Packet) (*talk, radius.Packet, error) {
	if r.Type != eap.Identity {
		return nil, radius.Packet{}, silence{fault(api.ErrState)}
	}
	if len(s.talks) >= s.own.Sessions {
		return nil, radius.Packet{}, silence{errFull}
	}
	s.begun++
	t := newTalk(s.begun, s.own.Tls, s.own.Size)
	s.talks[t.state] = t
	return t, t.challenge(r.Id, piece.Start()), nil
}

func (s *Server) talkOf(key []byte) *talk {
	if len(key) != stateSize {
		return nil
	}
	return s.talks[state(key)]
}

// settle: what an answer of that code means to its talk.
func (s *Server) settle(t *talk, code int) {
	switch code {
	case radius.Accept:
		s.grants = pushed(s.grants, t.grant(), mostGrants)
		fallthrough
	case radius.Reject:
		s.end(t)
	}
}

func (s *Server) end(t *talk) { delete(s.talks, t.state) }

// endOld ends those that nobody said anything to for too long.
func (s *Server) endOld() {
	maps.DeleteFunc(s.talks, func(_ state, t *talk) bool {
		t.ticks++
		return t.ticks >= s.own.Life
	})
}

// saidTo is what was answered to the same Ask, if that is kept.
func (s *Server) saidTo(b []byte) ([]byte, bool) {
	at := slices.IndexFunc(s.kept, func(x exchange) bool { return bytes.Equal(x.asked, b) })
	if at < 0 {
		return nil, false
	}
	return bytes.Clone(s.kept[at].said), true
}

// pushed is a list with x behind it: the eldest goes, where there are more than most.
func pushed[T any](list []T, x T, most int) []T {
	list = append(list, x)
	if len(list) > most {
		list = slices.Delete(list, 0, 1)
	}
	return list
}
