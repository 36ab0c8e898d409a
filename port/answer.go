package port

import (
	"tollgate/api"
	"tollgate/eap"
	"tollgate/radius"
	"tollgate/wrap"
)

// halfSize is that of each of the two keys that a server tells.
const halfSize = 32

// hear takes an answer of the server that is right: the peer is told the packet that is in it.
func (p *Port) hear(answer radius.Packet) ([]byte, api.Errno) {
	told := radius.Join(answer.Attrs)
	packet, e := eap.Read(told)
	if e != api.OK {
		return nil, e
	}
	if packet.Code != fitting(answer.Code) {
		return nil, api.ErrForm
	}
	switch answer.Code {
	case radius.Challenge:
		p.guest.state = stateIn(answer.Attrs)
		return p.ask(packet.Id, told), api.OK
	case radius.Accept:
		keys, ok := p.keysIn(answer.Attrs)
		if !ok {
			return nil, api.ErrForm
		}
		p.end(Open)
		p.keys = keys
	case radius.Reject:
		p.end(Shut)
	}
	return told, api.OK
}

// fitting is the code of the packet that must be in an answer.
func fitting(code int) int {
	switch code {
	case radius.Challenge:
		return eap.Request
	case radius.Accept:
		return eap.Success
	}
	return eap.Failure
}

// stateIn is the State by which the server knows its talk again, if there is one.
func stateIn(l []radius.Attr) []radius.Attr {
	value, ok := radius.Find(l, radius.State)
	if !ok {
		return nil
	}
	return []radius.Attr{{Kind: radius.State, Value: value}}
}

// keysIn are the keys in an Accept, if both are there.
func (p *Port) keysIn(l []radius.Attr) ([64]byte, bool) {
	recv, send := p.keyIn(l, wrap.Recv), p.keyIn(l, wrap.Send)
	if recv == nil || send == nil {
		return [64]byte{}, false
	}
	return [64]byte(append(recv, send...)), true
}

// keyIn is the first key of that kind.
func (p *Port) keyIn(l []radius.Attr, kind int) []byte {
	for _, a := range l {
		if a.Kind != radius.Vendor {
			continue
		}
		k, key, e := wrap.Unwrap(a.Value, p.asked.auth, p.own.Secret)
		if e == api.OK && k == kind && len(key) == halfSize {
			return key
		}
	}
	return nil
}
