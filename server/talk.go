package server

import (
	"tollgate/api"
	"tollgate/eap"
	"tollgate/mac"
	"tollgate/method"
	"tollgate/radius"
	"tollgate/tls"
	"tollgate/wrap"
)

const (
	stateSize = 8
	idCount   = 256
	halfSize  = 32 // that of each of the two keys that a gate is told
	recvSalt  = 0x80
	sendSalt  = 0x81
)

// state is what a talk is known by.
type state [stateSize]byte

func stateOf(number int) state {
	var s state
	for i := range s {
		s[stateSize-1-i] = byte(uint64(number) >> (8 * i))
	}
	return s
}

// talk is what a server has with one peer.
type talk struct {
	number int
	state  state
	method *method.Method
	wants  int // the Id that its next Response must have
	ticks  int // since the last Response that it took
}

// newTalk: each talk draws of its own, so that no two have a random or a key in common.
func newTalk(number int, c tls.Config, size int) *talk {
	t := &talk{number: number, state: stateOf(number)}
	c.Draw = mac.Of(c.Draw[:], t.state[:])
	// New asked whether it refuses.
	t.method, _ = method.Server(c, size)
	return t
}

// hear takes a Response; what its method says then. An error that is no silence ends the talk.
func (t *talk) hear(r eap.Packet) ([]byte, error) {
	if r.Id != t.wants {
		return nil, silence{errTurn}
	}
	t.ticks = 0
	if r.Type != eap.Tls {
		return nil, fault(api.ErrNak)
	}
	said, e := t.method.Step(r.Data)
	if e != api.OK {
		return nil, fault(e)
	}
	return said, nil
}

// challenge asks for the next Response behind that of this Id.
func (t *talk) challenge(id int, data []byte) radius.Packet {
	t.wants = (id + 1) % idCount
	attrs := []radius.Attr{{Kind: radius.State, Value: t.state[:]}}
	request := eap.Packet{Code: eap.Request, Id: t.wants, Type: eap.Tls, Data: data}
	return radius.Packet{Code: radius.Challenge, Attrs: append(attrs, attrsOf(request)...)}
}

// accept lets in who sent the Response of this Id: the gate is told the keys, by what it asked and a secret.
func (t *talk) accept(id int, asked [16]byte, secret []byte) radius.Packet {
	k, _ := t.method.Keys()
	number := byte(t.number)
	recv, _ := wrap.Wrap(wrap.Recv, k.Msk[:halfSize], [2]byte{recvSalt, number}, asked, secret)
	send, _ := wrap.Wrap(wrap.Send, k.Msk[halfSize:], [2]byte{sendSalt, number}, asked, secret)
	attrs := attrsOf(eap.Packet{Code: eap.Success, Id: id})
	attrs = append(attrs, radius.Attr{Kind: radius.Vendor, Value: recv}, radius.Attr{Kind: radius.Vendor, Value: send})
	return radius.Packet{Code: radius.Accept, Attrs: attrs}
}

func reject(id int) radius.Packet {
	return radius.Packet{Code: radius.Reject, Attrs: attrsOf(eap.Packet{Code: eap.Failure, Id: id})}
}

func attrsOf(p eap.Packet) []radius.Attr {
	b, _ := eap.Write(p)
	return radius.Split(b)
}

// grant tells who was let in.
func (t *talk) grant() Grant {
	k, _ := t.method.Keys()
	return Grant{Talk: t.number, Name: t.method.Other(), Keys: k}
}
