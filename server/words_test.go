package server_test

import (
	"bytes"
	"crypto/hmac"
	"crypto/sha256"
	"encoding/binary"
	"slices"
	"testing"

	"tollgate/api"
	"tollgate/eap"
	"tollgate/house"
	"tollgate/method"
	"tollgate/radius"
	"tollgate/server"
	"tollgate/wrap"
)

var home house.House

const secret = "the gate's secret"

// packet is the bytes of a Request or a Response.
func packet(code, id, kind int, data ...byte) []byte {
	n := 5 + len(data)
	return slices.Concat([]byte{byte(code), byte(id), byte(n / 256), byte(n % 256), byte(kind)}, data)
}

// end is the bytes of a Success or a Failure.
func end(code, id int) []byte { return []byte{byte(code), byte(id), 0, 4} }

// numbered is a number in eight bytes.
func numbered(n int) []byte { return binary.BigEndian.AppendUint64(nil, uint64(n)) }

// talkWords is what a server must have with one peer.
type talkWords struct {
	method *method.Method
	wants  byte
	ticks  int
}

// words is what a server must be, by the document's words.
type words struct {
	c          server.Config
	begun      int
	talks      map[int]*talkWords
	asks, said [][]byte
	grants     []server.Grant
}

func (w *words) take(b []byte) ([]byte, api.Errno) {
	asked, e := radius.Open(b, w.c.Secret)
	if e != api.OK {
		return nil, e
	}
	for i, other := range w.asks {
		if bytes.Equal(b, other) {
			return w.said[i], api.OK
		}
	}
	var response, state []byte
	hasState := false
	for _, a := range asked.Attrs {
		if a.Kind == 79 {
			response = append(response, a.Value...)
		}
		if a.Kind == 24 && !hasState {
			hasState, state = true, a.Value
		}
	}
	if _, e := eap.Read(response); e != api.OK {
		return nil, e
	}
	if response[0] != 2 {
		return nil, api.ErrForm
	}
	answer, e := w.answer(asked, response, state, hasState)
	if e != api.OK {
		return nil, e
	}
	answer.Id = asked.Id
	sealed, e := radius.Reply(answer, asked.Auth, w.c.Secret)
	if e != api.OK {
		return nil, e
	}
	w.asks, w.said = append(w.asks, b), append(w.said, sealed)
	if n := len(w.asks) - w.c.Answers; n > 0 {
		w.asks, w.said = w.asks[n:], w.said[n:]
	}
	return sealed, api.OK
}

func (w *words) answer(asked radius.Packet, response, state []byte, hasState bool) (radius.Packet, api.Errno) {
	id, kind := int(response[1]), response[4]
	if !hasState {
		if kind != 1 {
			return radius.Packet{}, api.ErrState
		}
		if len(w.talks) == w.c.Sessions {
			return radius.Packet{}, api.ErrFull
		}
		w.begun++
		c := w.c.Tls
		h := hmac.New(sha256.New, c.Draw[:])
		h.Write(numbered(w.begun))
		c.Draw = [32]byte(h.Sum(nil))
		m, _ := method.Server(c, w.c.Size)
		w.talks[w.begun] = &talkWords{method: m}
		return w.challenge(w.begun, id, []byte{0x20}), api.OK
	}
	number := 0
	for n := range w.talks {
		if bytes.Equal(numbered(n), state) {
			number = n
		}
	}
	if number == 0 {
		return radius.Packet{}, api.ErrMiss
	}
	t := w.talks[number]
	if int(t.wants) != id {
		return radius.Packet{}, api.ErrState
	}
	var said []byte
	e := api.ErrNak
	if kind == 13 {
		said, e = t.method.Step(response[5:])
	}
	if e != api.OK {
		delete(w.talks, number)
		return radius.Packet{Code: 3, Attrs: []radius.Attr{{Kind: 79, Value: end(4, id)}}}, api.OK
	}
	if t.method.Done() {
		delete(w.talks, number)
		return w.accept(number, id, t.method, asked.Auth), api.OK
	}
	return w.challenge(number, id, said), api.OK
}

func (w *words) challenge(number, id int, said []byte) radius.Packet {
	t := w.talks[number]
	t.wants, t.ticks = byte(id+1), 0
	p := radius.Packet{Code: 11, Attrs: []radius.Attr{{Kind: 24, Value: numbered(number)}}}
	for part := range slices.Chunk(packet(1, int(t.wants), 13, said...), 253) {
		p.Attrs = append(p.Attrs, radius.Attr{Kind: 79, Value: part})
	}
	return p
}

func (w *words) accept(number, id int, m *method.Method, asked [16]byte) radius.Packet {
	k, _ := m.Keys()
	w.grants = append(w.grants, server.Grant{Talk: number, Name: m.Other(), Keys: k})
	if len(w.grants) > 100 {
		w.grants = w.grants[1:]
	}
	recv, _ := wrap.Wrap(17, k.Msk[:32], [2]byte{0x80, byte(number)}, asked, w.c.Secret)
	send, _ := wrap.Wrap(16, k.Msk[32:], [2]byte{0x81, byte(number)}, asked, w.c.Secret)
	return radius.Packet{Code: 2, Attrs: []radius.Attr{{Kind: 79, Value: end(3, id)}, {Kind: 26, Value: recv}, {Kind: 26, Value: send}}}
}

func (w *words) tick() {
	for n, t := range w.talks {
		if t.ticks++; t.ticks == w.c.Life {
			delete(w.talks, n)
		}
	}
}

// both are a server, and what it must be.
type both struct {
	s *server.Server
	w *words
}

func newBoth(t *testing.T, c server.Config) *both {
	t.Helper()
	s, e := server.New(c)
	if e != api.OK || s == nil {
		t.Fatalf("no server: error %d", e)
	}
	o := &both{s, &words{c: c, talks: map[int]*talkWords{}}}
	o.isSo(t)
	return o
}

// configOn is that of a server on a path, with room for a few.
func configOn(t *testing.T, p house.Path) server.Config {
	t.Helper()
	_, b := home.On(t, p)
	return server.Config{Secret: []byte(secret), Tls: b, Size: p.Sizes[1], Sessions: 3, Answers: 4, Life: 5}
}

// big is a path of a few packets.
func big() house.Path { return house.Path{Sizes: [2]int{3800, 4000}} }

// take hands b to both, and holds the answers and all that the server tells against each other.
func (o *both) take(t *testing.T, b []byte) ([]byte, api.Errno) {
	t.Helper()
	said, e := o.s.Take(b)
	want, wantE := o.w.take(b)
	if e != wantE || !bytes.Equal(said, want) {
		t.Errorf("%.40x (%d bytes): %.40x (%d bytes), error %d, not %.40x (%d bytes), error %d", b, len(b), said, len(said), e, want, len(want), wantE)
	}
	o.isSo(t)
	return want, wantE
}

// takeAs is take, where the error is plain.
func (o *both) takeAs(t *testing.T, b []byte, want api.Errno) []byte {
	t.Helper()
	said, e := o.take(t, b)
	if e != want {
		t.Errorf("%.40x (%d bytes): error %d, not %d", b, len(b), e, want)
	}
	return said
}

func (o *both) tick(t *testing.T, n int) {
	t.Helper()
	for range n {
		o.s.Tick()
		o.w.tick()
		o.isSo(t)
	}
}

// isSo holds all that the server tells against the words.
func (o *both) isSo(t *testing.T) {
	t.Helper()
	o.counts(t, len(o.w.talks), len(o.w.asks))
	if !slices.Equal(o.s.Grants(), o.w.grants) {
		t.Errorf("%d were let in, not %d, or others", len(o.s.Grants()), len(o.w.grants))
	}
	if o.s.Talks() > o.w.c.Sessions || o.s.Kept() > o.w.c.Answers {
		t.Errorf("%d talks, %d answers are kept", o.s.Talks(), o.s.Kept())
	}
}

func (o *both) counts(t *testing.T, talks, kept int) {
	t.Helper()
	if o.s.Talks() != talks || o.s.Kept() != kept {
		t.Errorf("%d talks, not %d; %d answers, not %d", o.s.Talks(), talks, o.s.Kept(), kept)
	}
}

// ask is the bytes of an Ask by the gate's secret; its number makes its Id and its Auth.
func ask(t *testing.T, number int, attrs ...radius.Attr) []byte {
	t.Helper()
	b, e := radius.Seal(radius.Packet{Code: radius.Ask, Id: number % 256, Auth: [16]byte(slices.Concat(numbered(number), []byte("gate's n"))), Attrs: attrs}, []byte(secret))
	if e != api.OK {
		t.Fatal("the Ask isn't sealed: error ", e)
	}
	return b
}

func state(b ...byte) radius.Attr { return radius.Attr{Kind: radius.State, Value: b} }

// with are attributes with those of a packet of EAP behind them.
func with(b []byte, attrs ...radius.Attr) []radius.Attr {
	return slices.Concat(attrs, radius.Split(b))
}
