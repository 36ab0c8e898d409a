package eap

import "tollgate/api"

// mostNumber is what a number of one byte can say.
const mostNumber = 255

// inForm: a Request and a Response say something of a type; a Success and a Failure say nothing.
func inForm(p *Packet) bool {
	if p.Id < 0 || p.Id > mostNumber {
		return false
	}
	switch p.Code {
	case Request:
		fallthrough
	case Response:
		return 1 <= p.Type && p.Type <= mostNumber && len(p.Data) <= api.MaxPacket-headSize-typeSize
	case Success:
		fallthrough
	case Failure:
		return p.Type == 0 && len(p.Data) == 0
	}
	return false
}
