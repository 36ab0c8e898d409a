package method_test

import (
	"bytes"
	"slices"
	"testing"

	"tollgate/api"
	"tollgate/house"
	"tollgate/method"
	"tollgate/piece"
	"tollgate/tls"
)

// most is the document's own number: how many bytes of pieces wait at most.
const most = 32768

// The document's own words.
var (
	start = []byte{0x20}
	ack   = []byte{0}
)

// words is what an end must be, by the document's words.
type words struct {
	c            tls.Config
	size         int
	server       bool
	side         *tls.Side
	joiner       *piece.Joiner
	left         [][]byte
	done, failed bool
}

func newWords(c tls.Config, size int, server bool) *words {
	w := &words{c: c, size: size, server: server, joiner: piece.New()}
	if server {
		w.side = tls.Serve(c)
	}
	return w
}

func (w *words) step(b []byte) ([]byte, api.Errno) {
	if w.done || w.failed {
		return nil, api.ErrState
	}
	said, e := w.answer(b)
	w.failed = e != api.OK
	return said, e
}

func (w *words) answer(b []byte) ([]byte, api.Errno) {
	if w.side == nil {
		if !bytes.Equal(b, start) {
			return nil, api.ErrForm
		}
		side, flight, e := tls.Dial(w.c)
		if e != api.OK {
			return nil, e
		}
		w.side = side
		return w.first(flight), api.OK
	}
	if len(w.left) > 0 {
		if !bytes.Equal(b, ack) {
			return nil, api.ErrForm
		}
		said := w.left[0]
		w.left = w.left[1:]
		return said, api.OK
	}
	flight, whole, e := w.joiner.Take(b)
	switch {
	case e != api.OK:
		return nil, e
	case !whole:
		return ack, api.OK
	case w.server && w.side.Done() && len(flight) > 0:
		return nil, api.ErrState
	case w.server && w.side.Done():
		w.done = true
		return nil, api.OK
	case len(flight) == 0:
		return nil, api.ErrForm
	}
	return w.feed(flight)
}

func (w *words) feed(flight []byte) ([]byte, api.Errno) {
	said, e := w.side.Feed(flight)
	switch {
	case e != api.OK && len(said) > 0:
		return slices.Concat([]byte{0}, said), e
	case e != api.OK:
		return nil, e
	case len(said) > 0:
		return w.first(said), api.OK
	case w.server || !w.side.Committed():
		return nil, api.ErrForm
	}
	w.done = true
	return ack, api.OK
}

// first is the first piece of a flight; the others are left.
func (w *words) first(flight []byte) []byte {
	w.left = piecesOf(flight, w.size)
	said := w.left[0]
	w.left = w.left[1:]
	return said
}

// piecesOf is what a flight is split into.
func piecesOf(flight []byte, size int) [][]byte {
	n := len(flight)
	if n+1 <= size {
		return [][]byte{slices.Concat([]byte{0}, flight)}
	}
	all := [][]byte{slices.Concat([]byte{0xC0, byte(n >> 24), byte(n >> 16), byte(n >> 8), byte(n)}, flight[:size-5])}
	for rest := flight[size-5:]; len(rest) > 0; rest = rest[min(size-1, len(rest)):] {
		flag := byte(0x40)
		if len(rest) <= size-1 {
			flag = 0
		}
		all = append(all, slices.Concat([]byte{flag}, rest[:min(size-1, len(rest))]))
	}
	return all
}

// answerEachOther lets two speak, the peer first, and answers all that was said: even ones to the peer, odd ones to the server.
func answerEachOther(p, s *words) [][]byte {
	var all [][]byte
	to, other := p, s
	for next, e := start, api.OK; e == api.OK && len(next) > 0; to, other = other, to {
		all = append(all, next)
		next, e = to.step(next)
	}
	return all
}

// talkOf is all that is said on a path: Start first.
func talkOf(t *testing.T, p house.Path) [][]byte {
	t.Helper()
	a, b := home.On(t, p)
	return answerEachOther(newWords(a, p.Sizes[0], false), newWords(b, p.Sizes[1], true))
}

// both are an end, and what it must be.
type both struct {
	m *method.Method
	w *words
}

func newBoth(t *testing.T, c tls.Config, size int, server bool) *both {
	t.Helper()
	begin := method.Peer
	if server {
		begin = method.Server
	}
	m, e := begin(c, size)
	if e != api.OK || m == nil {
		t.Fatalf("no end by %d: error %d", size, e)
	}
	return &both{m, newWords(c, size, server)}
}

func bothOn(t *testing.T, p house.Path, server bool) *both {
	t.Helper()
	a, b := home.On(t, p)
	if server {
		return newBoth(t, b, p.Sizes[1], true)
	}
	return newBoth(t, a, p.Sizes[0], false)
}

// step hands b to both, and holds the answers and all that the end tells against each other.
func (o *both) step(t *testing.T, b []byte) ([]byte, api.Errno) {
	t.Helper()
	said, e := o.m.Step(b)
	want, wantE := o.w.step(b)
	if e != wantE || !bytes.Equal(said, want) {
		t.Errorf("%.30x (%d bytes): %.30x (%d bytes), error %d, not %.30x (%d bytes), error %d", b, len(b), said, len(said), e, want, len(want), wantE)
	}
	o.isSo(t)
	return want, wantE
}

// stepAs is step, where the answer is plain.
func (o *both) stepAs(t *testing.T, b, want []byte, wantE api.Errno) {
	t.Helper()
	if said, e := o.step(t, b); e != wantE || !bytes.Equal(said, want) {
		t.Errorf("%.30x (%d bytes): %.30x, error %d, not %.30x, error %d", b, len(b), said, e, want, wantE)
	}
}

// isSo holds all that the end tells against the words.
func (o *both) isSo(t *testing.T) {
	t.Helper()
	m, w := o.m, o.w
	if m.Done() != w.done || m.Failed() != w.failed || m.Waits() != w.joiner.Waits() || m.Waits() > most {
		t.Errorf("done %v, not %v, failed %v, not %v, %d wait, not %d", m.Done(), w.done, m.Failed(), w.failed, m.Waits(), w.joiner.Waits())
	}
	if !w.done {
		o.tellsNothing(t)
		return
	}
	if k, ok := m.Keys(); !ok || k != keysOf(t, w.side) {
		t.Errorf("keys %v, %x", ok, k)
	}
	if m.Other() != w.side.Peer().Subject || m.Resumed() != w.side.Resumed() {
		t.Errorf("with %q, not %q, resumed %v", m.Other(), w.side.Peer().Subject, m.Resumed())
	}
	v, ok := m.Saved()
	want, wantOk := w.side.Saved()
	if ok != wantOk || ok && w.server || !house.SameSaved(v, want) {
		t.Errorf("keeps %v, %v, not %v", ok, v, want)
	}
}

func (o *both) tellsNothing(t *testing.T) {
	t.Helper()
	if k, ok := o.m.Keys(); ok || k != (method.Keys{}) {
		t.Errorf("not done, keys %x", k)
	}
	if v, ok := o.m.Saved(); ok || !house.SameSaved(v, tls.Saved{}) || o.m.Other() != "" || o.m.Resumed() {
		t.Errorf("not done, with %q, resumed %v, keeps %v", o.m.Other(), o.m.Resumed(), v)
	}
}

// keysOf are the keys, by the document's words.
func keysOf(t *testing.T, s *tls.Side) method.Keys {
	t.Helper()
	material, e := s.Export("EXPORTER_EAP_TLS_Key_Material", []byte{13}, 128)
	id, f := s.Export("EXPORTER_EAP_TLS_Method-Id", []byte{13}, 64)
	if e != api.OK || f != api.OK {
		t.Fatal("nothing is exported: errors ", e, f)
	}
	return method.Keys{Msk: [64]byte(material[:64]), Emsk: [64]byte(material[64:]), Session: [65]byte(slices.Concat([]byte{13}, id))}
}

// reached is an end that was told all that a talk says to it ahead of the packet at.
func reached(t *testing.T, p house.Path, server bool, talk [][]byte, at int) *both {
	t.Helper()
	o := bothOn(t, p, server)
	first := 0
	if server {
		first = 1
	}
	for i := first; i < at; i += 2 {
		if _, e := o.step(t, talk[i]); e != api.OK {
			t.Fatalf("%v: packet %d is refused: error %d", p, i, e)
		}
	}
	return o
}
