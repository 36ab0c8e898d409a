package method_test

import (
	"bytes"
	"crypto/sha256"
	"slices"
	"testing"

	"tollgate/api"
	"tollgate/curve"
	"tollgate/hello"
	"tollgate/house"
	"tollgate/keys"
	"tollgate/mac"
	"tollgate/record"
	"tollgate/tls"
)

// insider knows what both ends of a talk know: so it says for either what that would never say.
type insider struct {
	t              *testing.T
	client, server []byte      // the first two flights
	hands, talks   [2][32]byte // the secrets of the client and of the server: of the handshake, and behind it
}

// overheard is a full talk that is told by what its client draws.
func overheard(t *testing.T, a, b tls.Config) insider {
	t.Helper()
	talk := answerEachOther(newWords(a, 4000, false), newWords(b, 4000, true))
	in := insider{t: t, client: talk[1][1:], server: talk[2][1:]}
	scalar := mac.Derive(a.Draw, "share", sha256.Sum256(nil))
	first, sealed := in.cut(in.server)
	said := slices.Concat(in.client[5:], first[5:])
	m, _, e := hello.Read(first[5:])
	in.isOK(e)
	shared, e := curve.Shared(scalar, m.Share)
	in.isOK(e)
	h := keys.Handshake(keys.Early([32]byte{}), shared)
	in.hands = in.secrets(h, "hs traffic", said)
	_, body, e := record.New(in.hands[1]).Open(sealed)
	in.isOK(e)
	in.talks = in.secrets(keys.Master(h), "ap traffic", slices.Concat(said, body))
	return in
}

func (in insider) isOK(e api.Errno) {
	in.t.Helper()
	if e != api.OK {
		in.t.Fatal("the insider's own error ", e)
	}
}

func (in insider) secrets(of [32]byte, what string, said []byte) [2][32]byte {
	sum := sha256.Sum256(said)
	return [2][32]byte{mac.Derive(of, "c "+what, sum), mac.Derive(of, "s "+what, sum)}
}

func (in insider) cut(b []byte) ([]byte, []byte) {
	in.t.Helper()
	rec, rest, e := record.Cut(b)
	in.isOK(e)
	return rec, rest
}

func (in insider) sealed(h *record.Half, kind int, b []byte) []byte {
	in.t.Helper()
	rec, e := h.Seal(kind, b, 0)
	in.isOK(e)
	return rec
}

func (in insider) message(m hello.Msg) []byte {
	in.t.Helper()
	b, e := hello.Write(m)
	in.isOK(e)
	return b
}

func (in insider) ticket() []byte {
	return in.message(hello.Msg{Kind: hello.Ticket, Life: 5, Age: 6, Nonce: []byte{7}, Ticket: []byte("ticket")})
}

func packet(flight ...[]byte) []byte { return slices.Concat([]byte{0}, slices.Concat(flight...)) }

// A peer of which a flight leaves nothing to say isn't done, unless it is committed.
func TestPeersWithNothingToSay(t *testing.T) {
	t.Parallel()
	a, b := home.Ends(t)
	in := overheard(t, a, b)
	first, _ := in.cut(in.server)
	o := newBoth(t, a, 4000, false)
	o.step(t, start)
	o.stepAs(t, packet(first), nil, api.ErrForm)
	o.stepAs(t, ack, nil, api.ErrState)
	// A Ticket alone commits nobody; 00 alone does.
	half := record.New(in.talks[1])
	for i, last := range [][]byte{in.sealed(half, record.Handshake, in.ticket()), in.sealed(record.New(in.talks[1]), record.Data, []byte{0})} {
		o = newBoth(t, a, 4000, false)
		o.step(t, start)
		o.step(t, packet(in.server))
		if i == 0 {
			o.stepAs(t, packet(last), nil, api.ErrForm)
			continue
		}
		o.stepAs(t, packet(last), ack, api.OK)
		if _, ok := o.m.Saved(); ok || !o.m.Done() {
			t.Errorf("done %v, keeps %v", o.m.Done(), ok)
		}
	}
}

// A server that is committed while its peer still has something to say: that is said first.
func TestPeersThatAreCommittedEarly(t *testing.T) {
	t.Parallel()
	a, b := home.Ends(t)
	in := overheard(t, a, b)
	for _, size := range []int{4000, 300} {
		early := func() (*both, *record.Half) {
			o, half := newBoth(t, a, size, false), record.New(in.talks[1])
			said, _ := o.step(t, start)
			for len(o.w.left) > 0 {
				said, _ = o.step(t, ack)
			}
			said, e := o.step(t, packet(in.server, in.sealed(half, record.Handshake, in.ticket()), in.sealed(half, record.Data, []byte{0})))
			if e != api.OK || len(said) < 2 || o.m.Done() {
				t.Fatalf("by %d: %.20x, error %d, done %v", size, said, e, o.m.Done())
			}
			for len(o.w.left) > 0 {
				if o.step(t, ack); o.m.Done() {
					t.Fatalf("by %d: done with pieces left", size)
				}
			}
			return o, half
		}
		o, half := early()
		o.stepAs(t, packet(in.sealed(half, record.Handshake, in.ticket())), ack, api.OK)
		if !o.m.Done() {
			t.Errorf("by %d: not done", size)
		}
		o, half = early()
		o.stepAs(t, packet(in.sealed(half, record.Data, []byte{0})), ack, api.OK)
		o, _ = early()
		o.stepAs(t, ack, nil, api.ErrForm)
	}
}

// A server of which a flight leaves nothing to say.
func TestServersWithNothingToSay(t *testing.T) {
	t.Parallel()
	a, b := home.Ends(t)
	in := overheard(t, a, b)
	o := newBoth(t, b, 4000, true)
	o.step(t, packet(in.client))
	certs := in.sealed(record.New(in.hands[0]), record.Handshake, in.message(hello.Msg{Kind: hello.Certs, Certs: a.Chain}))
	o.stepAs(t, packet(certs), nil, api.ErrForm)
	if !o.m.Failed() {
		t.Error("not failed")
	}
}

// alertOf is the code of a sealed alert.
func (in insider) alertOf(half *record.Half, rec []byte) byte {
	in.t.Helper()
	kind, body, e := half.Open(rec)
	if e != api.OK || kind != record.Alert || len(body) != 2 || body[0] != 2 {
		in.t.Fatalf("no alert: kind %d, %x, error %d", kind, body, e)
	}
	return body[1]
}

// An alert is one piece, whatever the size is.
func TestAlerts(t *testing.T) {
	t.Parallel()
	a, b := home.Ends(t)
	in := overheard(t, a, b)
	for _, size := range []int{16, 24, 25, 4000} {
		// A bare one.
		o := newBoth(t, b, size, true)
		o.stepAs(t, packet([]byte{22, 3, 3, 0, 0}), []byte{0, 21, 3, 3, 0, 2, 2, 50}, api.ErrForm)
		o = newBoth(t, b, size, true)
		o.stepAs(t, packet([]byte{23, 3, 3, 0, 1, 0}), []byte{0, 21, 3, 3, 0, 2, 2, 10}, api.ErrState)
		// A sealed one.
		o = newBoth(t, b, size, true)
		o.step(t, packet(in.client))
		for len(o.w.left) > 0 {
			o.step(t, ack)
		}
		said, e := o.step(t, packet(in.sealed(record.New(in.hands[0]), record.Data, []byte{0})))
		if e != api.ErrState || len(said) != 25 || said[0] != 0 {
			t.Fatalf("by %d: %x, error %d", size, said, e)
		}
		half := record.New(in.hands[1])
		_, sealed := in.cut(in.server)
		if _, _, e := half.Open(sealed); e != api.OK {
			t.Fatal("the server's flight isn't opened: error ", e)
		}
		if code := in.alertOf(half, said[1:]); code != 10 {
			t.Errorf("by %d: the alert's code is %d", size, code)
		}
		// The other end's own isn't answered.
		o = newBoth(t, b, size, true)
		o.stepAs(t, packet([]byte{21, 3, 3, 0, 2, 2, 40}), nil, api.ErrAlert)
		o.stepAs(t, packet([]byte{21, 3, 3, 0, 2, 2, 40}), nil, api.ErrState)
	}
}

// A server whose handshake is done waits for nothing but an empty flight.
func TestServersLastPacket(t *testing.T) {
	t.Parallel()
	p := house.Path{Sizes: [2]int{4000, 4000}}
	talk := talkOf(t, p)
	last := len(talk) - 1
	for _, b := range [][]byte{{0}, counted(0x80, 0)} {
		o := reached(t, p, true, talk, last)
		o.stepAs(t, b, nil, api.OK)
		if !o.m.Done() {
			t.Errorf("%x: not done", b)
		}
	}
	for _, b := range [][]byte{{0, 1}, {0, 21, 3, 3, 0, 2, 2, 40}, counted(0x80, 1, 7), talk[1], talk[last-2], bytes.Repeat([]byte{0}, 300)} {
		o := reached(t, p, true, talk, last)
		o.stepAs(t, b, nil, api.ErrState)
		if !o.m.Failed() {
			t.Errorf("%.20x: not failed", b)
		}
	}
	o := reached(t, p, true, talk, last)
	o.stepAs(t, counted(0xC0, 2, 7), ack, api.OK)
	if o.m.Waits() != 1 || o.m.Done() {
		t.Errorf("%d wait, done %v", o.m.Waits(), o.m.Done())
	}
	o.stepAs(t, []byte{0, 8}, nil, api.ErrState)
	for _, b := range [][]byte{nil, start, {0x40}, {0x80}} {
		o := reached(t, p, true, talk, last)
		if _, e := o.step(t, b); e == api.OK || e == api.ErrState {
			t.Errorf("%x: error %d", b, e)
		}
	}
}
