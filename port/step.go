package port

import (
	"bytes"
	"slices"

	"tollgate/api"
	"tollgate/eap"
	"tollgate/mac"
	"tollgate/radius"
)

// guest is what a gate knows of him who wants to come in: attributes of what the server is asked, one of each or none.
type guest struct {
	name, state []radius.Attr
}

// asked is what an answer of the server must fit.
type asked struct {
	id   int
	auth [16]byte
}

// saying is what is said till somebody answers it.
type saying struct {
	bytes []byte
	times int // how often it was said
	ticks int // since the last time
}

// mostName is how many bytes of a name there may be: the server is told all of them, or none.
const mostName = 253

// empty: a gate that New didn't make counts as none.
func (p *Port) empty() bool { return p == nil || p.own.Tries == 0 }

// end forgets what a gate needs just as long as somebody wants to come in.
func (p *Port) end(s State) {
	p.state, p.guest, p.asked, p.said = s, guest{}, asked{}, saying{}
}

func (p *Port) say(b []byte) []byte {
	p.said = saying{bytes: b, times: 1}
	return bytes.Clone(b)
}

// again is what is said once more, if it is time for it.
func (p *Port) again() []byte {
	p.said.ticks++
	if p.said.ticks < p.own.Wait {
		return nil
	}
	if p.said.times == p.own.Tries {
		p.end(Lost)
		return nil
	}
	p.said.times++
	p.said.ticks = 0
	return bytes.Clone(p.said.bytes)
}

// ask says a Request with that Id to the peer.
func (p *Port) ask(id int, b []byte) []byte {
	p.state, p.wanted = Asking, id
	return p.say(b)
}

// pass asks the server by a Response of the peer, and by its bytes.
func (p *Port) pass(r eap.Packet, b []byte) ([]byte, api.Errno) {
	known, next := p.guest.named(r), p.nextAsk()
	sealed, e := radius.Seal(radius.Packet{
		Code: radius.Ask, Id: next.id, Auth: next.auth,
		Attrs: slices.Concat(known.name, known.state, radius.Split(b)),
	}, p.own.Secret)
	if e != api.OK {
		return nil, e
	}
	p.state, p.guest, p.asked = Waiting, known, next
	p.asks++
	return p.say(sealed), api.OK
}

// named is what is known behind a Response: the first name that somebody gives is his.
func (g guest) named(r eap.Packet) guest {
	if len(g.name) == 0 && r.Type == eap.Identity && 0 < len(r.Data) && len(r.Data) <= mostName {
		g.name = []radius.Attr{{Kind: radius.User, Value: r.Data}}
	}
	return g
}

// nextAsk: no two Asks have the same Auth, whoever they are about, for answers and keys hang on it.
func (p *Port) nextAsk() asked {
	n := p.asks
	drawn := mac.Of(p.own.Draw[:], []byte{byte(n >> 24), byte(n >> 16), byte(n >> 8), byte(n)})
	return asked{id: int(n % 256), auth: [16]byte(drawn[:16])}
}
