package peer

import (
	"bytes"

	"tollgate/api"
	"tollgate/eap"
	"tollgate/method"
	"tollgate/tls"
)

// exchange is a Request, and what was answered to it.
type exchange struct {
	id          int
	asked, said []byte // none, as long as there was no Request
}

// empty: a peer that New didn't make counts as none.
func (p *Peer) empty() bool { return p == nil || p.own.Wait == 0 }

func (p *Peer) isAccepted() bool { return p != nil && p.state == Accepted }

// isOver: nothing is taken any more.
func (p *Peer) isOver() bool {
	switch p.state {
	case Accepted, Failed, Lost:
		return true
	}
	return false
}

// end forgets what a peer needs just as long as it talks.
func (p *Peer) end(s State) {
	p.state, p.last, p.own.Tls = s, exchange{}, tls.Config{}
	if s != Accepted {
		p.method = nil
	}
}

// take takes a packet that may come now, with these bytes.
func (p *Peer) take(came eap.Packet, b []byte) ([]byte, api.Errno) {
	switch came.Code {
	case eap.Success:
		return nil, p.accept(came.Id)
	case eap.Failure:
		return nil, p.refuse(came.Id)
	}
	// A Request that comes once more: its answer was lost, or it was doubled on its way.
	if bytes.Equal(b, p.last.asked) {
		return p.last.said, api.OK
	}
	said, e := p.answer(came)
	if e != api.OK {
		p.end(Failed)
		return said, e
	}
	p.state = Talking
	p.last = exchange{id: came.Id, asked: bytes.Clone(b), said: said}
	return said, api.OK
}

func (p *Peer) answer(r eap.Packet) ([]byte, api.Errno) {
	switch r.Type {
	case eap.Identity:
		p.method = nil
		return respond(r.Id, eap.Identity, []byte(p.own.Name))
	case eap.Tls:
		return p.step(r)
	}
	return respond(r.Id, eap.Nak, []byte{eap.Tls})
}

// step lets the method take what a Request has. What that says beside an error is answered, too.
func (p *Peer) step(r eap.Packet) ([]byte, api.Errno) {
	if p.method == nil {
		// New asked whether it refuses.
		p.method, _ = method.Peer(p.own.Tls, p.own.Size)
	}
	data, e := p.method.Step(r.Data)
	if len(data) == 0 {
		return nil, e
	}
	said, _ := respond(r.Id, eap.Tls, data)
	return said, e
}

func respond(id, kind int, data []byte) ([]byte, api.Errno) {
	return eap.Write(eap.Packet{Code: eap.Response, Id: id, Type: kind, Data: data})
}

// accept: a server that lets one in whose method isn't done is none that he knows.
func (p *Peer) accept(id int) api.Errno {
	if !p.method.Done() || id != p.last.id {
		return api.ErrState
	}
	p.end(Accepted)
	return api.OK
}

// refuse: a Failure has no mark, so just one that fits what was said last is believed, and none when the method is done.
func (p *Peer) refuse(id int) api.Errno {
	if p.method.Done() || p.last.asked == nil || id != p.last.id {
		return api.ErrState
	}
	p.end(Failed)
	return api.OK
}
