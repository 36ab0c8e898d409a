package peer_test

import (
	"bytes"
	"slices"
	"testing"

	"tollgate/api"
	"tollgate/house"
	"tollgate/method"
	"tollgate/peer"
	"tollgate/tls"
)

var home house.House

// most is the document's own number: how many bytes a packet has at most.
const most = 4096

// packet is the bytes of a Request or a Response.
func packet(code, id, kind int, data ...byte) []byte {
	n := 5 + len(data)
	return slices.Concat([]byte{byte(code), byte(id), byte(n / 256), byte(n % 256), byte(kind)}, data)
}

// end is the bytes of a Success or a Failure.
func end(code, id int) []byte { return []byte{byte(code), byte(id), 0, 4} }

// wrongBytes is what is wrong with bytes that are no packet's.
func wrongBytes(b []byte) api.Errno {
	if len(b) < 4 || len(b) < 256*int(b[2])+int(b[3]) {
		return api.ErrTail
	}
	said := b[0] == 1 || b[0] == 2
	ended := b[0] == 3 || b[0] == 4
	if len(b) > 256*int(b[2])+int(b[3]) || len(b) > most || !said && !ended || ended && len(b) > 4 || said && (len(b) < 5 || b[4] == 0) {
		return api.ErrForm
	}
	return api.OK
}

// words is what a peer must be, by the document's words.
type words struct {
	c           peer.Config
	state       peer.State
	method      *method.Method
	asked, said []byte
	ticks       int
}

func (w *words) isDone() bool { return w.method != nil && w.method.Done() }

func (w *words) take(b []byte) ([]byte, api.Errno) {
	if e := wrongBytes(b); e != api.OK {
		return nil, e
	}
	if b[0] == 2 || w.state > 1 {
		return nil, api.ErrState
	}
	said, e := w.answer(b)
	if e == api.OK {
		w.ticks = 0
	}
	return said, e
}

func (w *words) answer(b []byte) ([]byte, api.Errno) {
	last := len(w.asked) > 0 && w.asked[1] == b[1]
	switch {
	case b[0] == 3 && (!w.isDone() || !last), b[0] == 4 && (w.isDone() || !last):
		return nil, api.ErrState
	case b[0] == 3:
		w.state = 2
		return nil, api.OK
	case b[0] == 4:
		w.state = 3
		return nil, api.OK
	case bytes.Equal(b, w.asked):
		return w.said, api.OK
	}
	said := packet(2, int(b[1]), 3, 13)
	if b[4] == 1 {
		w.method = nil
		said = packet(2, int(b[1]), 1, []byte(w.c.Name)...)
	}
	if b[4] == 13 {
		if w.method == nil {
			w.method, _ = method.Peer(w.c.Tls, w.c.Size)
		}
		data, e := w.method.Step(b[5:])
		said = packet(2, int(b[1]), 13, data...)
		if len(data) == 0 {
			said = nil
		}
		if e != api.OK {
			w.state = 3
			return said, e
		}
	}
	w.state, w.asked, w.said = 1, b, said
	return said, api.OK
}

func (w *words) tick() {
	if w.state != 1 {
		return
	}
	if w.ticks++; w.ticks == w.c.Wait {
		w.state = 4
	}
}

// both are a peer, and what it must be.
type both struct {
	p *peer.Peer
	w *words
}

func newBoth(t *testing.T, c peer.Config) *both {
	t.Helper()
	p, e := peer.New(c)
	if e != api.OK || p == nil {
		t.Fatalf("no peer: error %d", e)
	}
	o := &both{p, &words{c: c}}
	o.isSo(t)
	return o
}

// configOn is that of a peer on a path, who waits long.
func configOn(t *testing.T, p house.Path) peer.Config {
	t.Helper()
	a, _ := home.On(t, p)
	return peer.Config{Name: "bob", Tls: a, Size: p.Sizes[0], Wait: 1000}
}

// take hands b to both, and holds the answers and all that the peer tells against each other.
func (o *both) take(t *testing.T, b []byte) ([]byte, api.Errno) {
	t.Helper()
	said, e := o.p.Take(b)
	want, wantE := o.w.take(b)
	if e != wantE || !bytes.Equal(said, want) {
		t.Errorf("%.20x (%d bytes): %.20x (%d bytes), error %d, not %.20x (%d bytes), error %d", b, len(b), said, len(said), e, want, len(want), wantE)
	}
	o.isSo(t)
	return said, e
}

// takeAs is take, where the answer is plain.
func (o *both) takeAs(t *testing.T, b, want []byte, wantE api.Errno) {
	t.Helper()
	if said, e := o.take(t, b); e != wantE || !bytes.Equal(said, want) {
		t.Errorf("%.20x (%d bytes): %.20x, error %d, not %.20x, error %d", b, len(b), said, e, want, wantE)
	}
}

// is tells a fault, if the peer stands otherwise.
func (o *both) is(t *testing.T, want peer.State) {
	t.Helper()
	if o.p.State() != want {
		t.Errorf("it is %d, not %d", o.p.State(), want)
	}
}

func (o *both) tick(t *testing.T, n int) {
	t.Helper()
	for range n {
		o.p.Tick()
		o.w.tick()
		o.isSo(t)
	}
}

// isSo holds all that the peer tells against the words.
func (o *both) isSo(t *testing.T) {
	t.Helper()
	o.is(t, o.w.state)
	k, ok := o.p.Keys()
	v, kept := o.p.Saved()
	var wantK method.Keys
	var wantV tls.Saved
	wantOk, wantKept, other := false, false, ""
	if o.w.state == peer.Accepted {
		wantK, wantOk = o.w.method.Keys()
		wantV, wantKept = o.w.method.Saved()
		other = o.w.method.Other()
	}
	if k != wantK || ok != wantOk || !house.SameSaved(v, wantV) || kept != wantKept || o.p.Other() != other {
		t.Errorf("of one that is %d: keys %v, not %v, keeps %v, not %v, other end %q, not %q", o.w.state, ok, wantOk, kept, wantKept, o.p.Other(), other)
	}
}

// talkOn is all that a gate says to a peer on a path, from the Request with the first Id on: Identity, the server's
// packets, Success.
func talkOn(t *testing.T, p house.Path, id int) [][]byte {
	t.Helper()
	_, b := home.On(t, p)
	server, e := method.Server(b, p.Sizes[1])
	if e != api.OK {
		t.Fatal("no server: error ", e)
	}
	w := &words{c: configOn(t, p)}
	talk := [][]byte{packet(1, id, 1)}
	for said := []byte{0x20}; !server.Done(); {
		if _, e := w.take(talk[len(talk)-1]); e != api.OK {
			t.Fatal("the peer refuses: error ", e)
		}
		if len(talk) > 1 {
			if said, e = server.Step(w.said[5:]); e != api.OK {
				t.Fatal("the server refuses: error ", e)
			}
		}
		if !server.Done() {
			id++
			talk = append(talk, packet(1, id%256, 13, said...))
		}
	}
	return append(talk, end(3, id%256))
}

// reached is a peer that was told all that a talk says ahead of the packet at.
func reached(t *testing.T, c peer.Config, talk [][]byte, at int) *both {
	t.Helper()
	o := newBoth(t, c)
	o.goOn(t, talk[:at])
	return o
}

func (o *both) goOn(t *testing.T, talk [][]byte) {
	t.Helper()
	for i, b := range talk {
		if _, e := o.take(t, b); e != api.OK {
			t.Fatalf("packet %d is refused: error %d", i, e)
		}
	}
}
