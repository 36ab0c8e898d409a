package port_test

import (
	"bytes"
	"crypto/hmac"
	"crypto/md5"
	"crypto/sha256"
	"encoding/binary"
	"slices"
	"testing"

	"tollgate/api"
	"tollgate/eap"
	"tollgate/port"
	"tollgate/radius"
	"tollgate/wrap"
)

// packet is the bytes of a Request or a Response.
func packet(code, id, kind int, data ...byte) []byte {
	n := 5 + len(data)
	return slices.Concat([]byte{byte(code), byte(id), byte(n / 256), byte(n % 256), byte(kind)}, data)
}

// end is the bytes of a Success or a Failure.
func end(code, id int) []byte { return []byte{byte(code), byte(id), 0, 4} }

// attr is the bytes of an attribute.
func attr(kind int, value ...byte) []byte {
	return slices.Concat([]byte{byte(kind), byte(2 + len(value))}, value)
}

// inEap are the bytes of the attributes that a packet of EAP is in.
func inEap(b []byte) []byte {
	var all []byte
	for ; len(b) > 253; b = b[253:] {
		all = append(all, attr(79, b[:253]...)...)
	}
	if len(b) > 0 {
		all = append(all, attr(79, b...)...)
	}
	return all
}

// markedAs is the bytes of a packet of RADIUS with a mark by a secret at its end; Auth is what stands there when it is made.
func markedAs(code, id int, auth [16]byte, attrs, secret []byte) []byte {
	n := 20 + len(attrs) + 18
	b := slices.Concat([]byte{byte(code), byte(id), byte(n >> 8), byte(n)}, auth[:], attrs, attr(80, make([]byte, 16)...))
	h := hmac.New(md5.New, secret)
	h.Write(b)
	return append(b[:n-16], h.Sum(nil)...)
}

// answerOf is the bytes of a server's answer to what was asked.
func answerOf(code, id int, asked [16]byte, attrs, secret []byte) []byte {
	b := markedAs(code, id, asked, attrs, secret)
	sum := md5.Sum(slices.Concat(b, secret))
	copy(b[4:], sum[:])
	return b
}

// authOf is what the n-th Ask has, from 0 on.
func authOf(draw [32]byte, n int) [16]byte {
	h := hmac.New(sha256.New, draw[:])
	h.Write(binary.BigEndian.AppendUint32(nil, uint32(n)))
	return [16]byte(h.Sum(nil))
}

// words is what a gate must be, by the document's words.
type words struct {
	c           port.Config
	state       port.State
	asks        int
	user, known []byte // the bytes of the attributes User and State
	wanted      int
	auth        [16]byte
	said        []byte
	times       int
	ticks       int
	keys        [64]byte
}

func (w *words) say(s port.State, b []byte) []byte {
	w.state, w.said, w.times, w.ticks = s, b, 1, 0
	return b
}

func (w *words) start() ([]byte, api.Errno) {
	if w.state == 1 || w.state == 2 {
		return nil, api.ErrState
	}
	w.user, w.known, w.wanted = nil, nil, 0
	return w.say(1, []byte{1, 0, 0, 5, 1}), api.OK
}

func (w *words) fromPeer(b []byte) ([]byte, api.Errno) {
	if _, e := eap.Read(b); e != api.OK {
		return nil, e
	}
	if w.state != 1 || b[0] != 2 || int(b[1]) != w.wanted {
		return nil, api.ErrState
	}
	user := w.user
	if name := b[5:]; b[4] == 1 && user == nil && len(name) > 0 && len(name) < 254 {
		user = attr(1, name...)
	}
	attrs := slices.Concat(user, w.known, inEap(b))
	if 20+len(attrs)+18 > 4096 {
		return nil, api.ErrForm
	}
	w.user, w.auth = user, authOf(w.c.Draw, w.asks)
	w.asks++
	return w.say(2, markedAs(1, (w.asks-1)%256, w.auth, attrs, w.c.Secret)), api.OK
}

func (w *words) fromServer(b []byte) ([]byte, api.Errno) {
	if w.state != 2 {
		return nil, api.ErrState
	}
	p, e := radius.Opened(b, w.auth, w.c.Secret)
	if e != api.OK {
		return nil, e
	}
	if p.Id != (w.asks-1)%256 {
		return nil, api.ErrState
	}
	var known, told []byte
	var keys [2][]byte
	for _, a := range p.Attrs {
		if a.Kind == 24 && known == nil {
			known = attr(24, a.Value...)
		}
		if a.Kind == 79 {
			told = append(told, a.Value...)
		}
		if kind, key, e := wrap.Unwrap(a.Value, w.auth, w.c.Secret); a.Kind == 26 && e == api.OK && len(key) == 32 && keys[kind-16] == nil {
			keys[kind-16] = key
		}
	}
	if _, e := eap.Read(told); e != api.OK {
		return nil, e
	}
	switch {
	case p.Code == 11 && told[0] == 1:
		w.known, w.wanted = known, int(told[1])
		return w.say(1, told), api.OK
	case p.Code == 2 && told[0] == 3 && keys[0] != nil && keys[1] != nil:
		w.state, w.keys = 3, [64]byte(slices.Concat(keys[1], keys[0]))
		return told, api.OK
	case p.Code == 3 && told[0] == 4:
		w.state = 4
		return told, api.OK
	}
	return nil, api.ErrForm
}

func (w *words) tick() (peer, server []byte) {
	if w.state != 1 && w.state != 2 {
		return nil, nil
	}
	if w.ticks++; w.ticks < w.c.Wait {
		return nil, nil
	}
	w.ticks = 0
	if w.times++; w.times > w.c.Tries {
		w.state = 5
		return nil, nil
	}
	if w.state == 1 {
		return w.said, nil
	}
	return nil, w.said
}

// both are a gate, and what it must be.
type both struct {
	p *port.Port
	w *words
}

func config() port.Config {
	return port.Config{Secret: []byte("the gate's secret"), Draw: [32]byte{1, 2, 3}, Tries: 3, Wait: 2}
}

func newBoth(t *testing.T, c port.Config) *both {
	t.Helper()
	p, e := port.New(c)
	if e != api.OK || p == nil {
		t.Fatalf("no gate: error %d", e)
	}
	o := &both{p, &words{c: c}}
	o.isSo(t)
	return o
}

// isSame holds an answer, and all that the gate tells, against the words.
func (o *both) isSame(t *testing.T, what string, b, got, want []byte, e, wantE api.Errno) {
	t.Helper()
	if e != wantE || !bytes.Equal(got, want) {
		t.Errorf("%s %.24x (%d bytes): %.40x (%d bytes), error %d, not %.40x (%d bytes), error %d", what, b, len(b), got, len(got), e, want, len(want), wantE)
	}
	o.isSo(t)
}

func (o *both) isSo(t *testing.T) {
	t.Helper()
	var want [64]byte
	if o.w.state == port.Open {
		want = o.w.keys
	}
	if k, ok := o.p.Keys(); o.p.State() != o.w.state || ok != (o.w.state == port.Open) || k != want {
		t.Errorf("it is %d, not %d; keys %v, %x, not %x", o.p.State(), o.w.state, ok, k, want)
	}
}

func (o *both) is(t *testing.T, want port.State) {
	t.Helper()
	if o.p.State() != want {
		t.Errorf("it is %d, not %d", o.p.State(), want)
	}
}

func (o *both) start(t *testing.T) ([]byte, api.Errno) {
	t.Helper()
	said, e := o.p.Start()
	want, wantE := o.w.start()
	o.isSame(t, "Start", nil, said, want, e, wantE)
	return said, e
}

func (o *both) fromPeer(t *testing.T, b []byte) ([]byte, api.Errno) {
	t.Helper()
	said, e := o.p.FromPeer(b)
	want, wantE := o.w.fromPeer(b)
	o.isSame(t, "from the peer", b, said, want, e, wantE)
	return said, e
}

func (o *both) fromServer(t *testing.T, b []byte) ([]byte, api.Errno) {
	t.Helper()
	said, e := o.p.FromServer(b)
	want, wantE := o.w.fromServer(b)
	o.isSame(t, "from the server", b, said, want, e, wantE)
	return said, e
}

func (o *both) tick(t *testing.T) ([]byte, []byte) {
	t.Helper()
	peer, server := o.p.Tick()
	wantPeer, wantServer := o.w.tick()
	o.isSame(t, "a tick, to the peer", nil, peer, wantPeer, api.OK, api.OK)
	o.isSame(t, "a tick, to the server", nil, server, wantServer, api.OK, api.OK)
	return peer, server
}

// isAs tells a fault, if an error isn't the plain one.
func isAs(t *testing.T, e, want api.Errno) {
	t.Helper()
	if e != want {
		t.Errorf("error %d, not %d", e, want)
	}
}

// answer is what a server says to the last Ask.
func (o *both) answer(code int, attrs ...[]byte) []byte {
	return answerOf(code, (o.w.asks-1)%256, o.w.auth, slices.Concat(attrs...), o.w.c.Secret)
}

// key is an attribute with a wrapped key of n bytes.
func (o *both) key(t *testing.T, kind, n, seed int) []byte {
	t.Helper()
	v, e := wrap.Wrap(kind, bytes.Repeat([]byte{byte(seed)}, n), [2]byte{0x80 + byte(seed), byte(n)}, o.w.auth, o.w.c.Secret)
	isAs(t, e, api.OK)
	return attr(26, v...)
}

// keys are the attributes of both keys.
func (o *both) keys(t *testing.T) []byte {
	t.Helper()
	return slices.Concat(o.key(t, wrap.Recv, 32, 1), o.key(t, wrap.Send, 32, 2))
}

// asking, waiting are gates that have got so far: the Response to Id 7 is waited for, or the answer to that.
func asking(t *testing.T, c port.Config) *both {
	t.Helper()
	o := newBoth(t, c)
	o.start(t)
	o.fromPeer(t, packet(2, 0, 1, 'b', 'o', 'b'))
	o.fromServer(t, o.answer(11, attr(24, 9, 9), inEap(packet(1, 7, 13, 0x20))))
	o.is(t, port.Asking)
	return o
}

func waiting(t *testing.T, c port.Config) *both {
	t.Helper()
	o := asking(t, c)
	o.fromPeer(t, packet(2, 7, 13, 1, 2, 3))
	o.is(t, port.Waiting)
	return o
}

// opened is a gate that is open.
func opened(t *testing.T, c port.Config) *both {
	t.Helper()
	o := waiting(t, c)
	o.fromServer(t, o.answer(2, inEap(end(3, 7)), o.keys(t)))
	o.is(t, port.Open)
	return o
}

func shut(t *testing.T, c port.Config) *both {
	t.Helper()
	o := waiting(t, c)
	o.fromServer(t, o.answer(3, inEap(end(4, 7))))
	o.is(t, port.Shut)
	return o
}

func lost(t *testing.T, c port.Config) *both {
	t.Helper()
	o := waiting(t, c)
	for range c.Tries * c.Wait {
		o.tick(t)
	}
	o.is(t, port.Lost)
	return o
}
