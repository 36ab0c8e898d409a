package whole_test

import (
	"bytes"
	"testing"

	"tollgate/api"
	"tollgate/eap"
	"tollgate/hello"
	"tollgate/house"
	"tollgate/peer"
	"tollgate/piece"
	"tollgate/port"
	"tollgate/record"
	"tollgate/server"
	"tollgate/world"
)

// heard is all that can be heard on a way of those who come there: packets of both kinds, pieces, flights, records,
// messages that are bare, and certificates.
type heard struct {
	eap, radius, pieces, flights, records, messages, certs [][]byte
}

func (h *heard) all() [][]byte {
	var all [][]byte
	for _, list := range [][][]byte{h.eap, h.radius, h.pieces, h.flights, h.records, h.messages, h.certs} {
		all = append(all, list...)
	}
	return all
}

// hearAll listens to a talk of a world of such a Config.
func hearAll(t *testing.T, c world.Config) *heard {
	t.Helper()
	p, e := peer.New(c.Peer)
	g, f := port.New(c.Port)
	s, d := server.New(c.Server)
	if e != api.OK || f != api.OK || d != api.OK {
		t.Fatal("no three: errors ", e, f, d)
	}
	h := &heard{}
	joiners := [2]*piece.Joiner{piece.New(), piece.New()}
	said, e := g.Start()
	for turn := 0; len(said) > 0; turn++ {
		if e != api.OK {
			t.Fatal("turn ", turn, ": error ", e)
		}
		h.hear(turn, said, joiners)
		said, e = []func([]byte) ([]byte, api.Errno){p.Take, g.FromPeer, s.Take, g.FromServer}[turn%4](said)
	}
	if p.State() != peer.Accepted || g.State() != port.Open {
		t.Fatal("nobody is in")
	}
	for _, list := range [][][]byte{c.Peer.Tls.Chain, c.Server.Tls.Chain, c.Peer.Tls.Roots} {
		h.certs = append(h.certs, list...)
	}
	return h
}

func (h *heard) hear(turn int, said []byte, joiners [2]*piece.Joiner) {
	said = bytes.Clone(said)
	if turn%4 > 1 {
		h.radius = append(h.radius, said)
		return
	}
	h.eap = append(h.eap, said)
	packet, _ := eap.Read(said)
	if packet.Type != eap.Tls {
		return
	}
	h.pieces = append(h.pieces, packet.Data)
	if flight, whole, e := joiners[turn%4].Take(packet.Data); e == api.OK && whole && len(flight) > 0 {
		h.hearFlight(flight)
	}
}

func (h *heard) hearFlight(flight []byte) {
	h.flights = append(h.flights, flight)
	for rest := flight; len(rest) > 0; {
		rec, behind, e := record.Cut(rest)
		if e != api.OK {
			return
		}
		h.records = append(h.records, rec)
		kind, b, _ := record.Body(rec)
		if _, n, e := hello.Read(b); kind == record.Handshake && e == api.OK && n == len(b) {
			h.messages = append(h.messages, b)
		}
		rest = behind
	}
}

// Something of each kind is heard.
func TestHearing(t *testing.T) {
	for _, p := range house.Paths([2]int{3800, 4000}, [2]int{100, 200}) {
		h := hearAll(t, home.On(t, p))
		for i, list := range [][][]byte{h.eap, h.radius, h.pieces, h.flights, h.records, h.messages, h.certs} {
			if len(list) < 2 {
				t.Errorf("%v: %d of kind %d", p, len(list), i)
			}
		}
	}
}
