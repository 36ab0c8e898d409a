package port_test

import (
	"bytes"
	"testing"

	"tollgate/api"
	"tollgate/port"
	"tollgate/sample"
)

func spoil(b []byte) {
	b = b[:cap(b)]
	for i := range b {
		b[i] ^= 0xA5
	}
}

// given hands b over with spare room, lets it stay, and spoils it then; what was said is spoiled, too.
func given(t *testing.T, f func([]byte) ([]byte, api.Errno), b []byte) []byte {
	t.Helper()
	handed := sample.Roomy(b)
	said, _ := f(handed)
	sample.Unchanged(t, "a packet", handed, b)
	want := bytes.Clone(said)
	spoil(handed)
	if !bytes.Equal(said, want) {
		t.Errorf("%.20x: the answer is shared", b)
	}
	spoil(said)
	return want
}

// Whatever becomes of the secret, of what came, and of what was answered: the gate goes on.
func TestNothingIsKeptOrShared(t *testing.T) {
	for seed := range 20 {
		c := config()
		c.Wait = 1
		roomy := c
		roomy.Secret = sample.Roomy(c.Secret)
		p, e := port.New(roomy)
		if e != api.OK {
			t.Fatal("no gate: error ", e)
		}
		sample.Unchanged(t, "a secret", roomy.Secret, c.Secret)
		spoil(roomy.Secret)
		w := &words{c: c}
		o := &both{p, w}
		isSaid := func(got, want []byte) {
			t.Helper()
			if o.isSo(t); !bytes.Equal(got, want) {
				t.Errorf("%.20x, not %.20x", got, want)
			}
		}
		isSaidAgain := func() {
			t.Helper()
			for range c.Tries - 1 {
				peer, server := p.Tick()
				wantPeer, wantServer := w.tick()
				isSaid(peer, wantPeer)
				isSaid(server, wantServer)
				spoil(peer)
				spoil(server)
			}
		}
		for range 2 {
			first, _ := p.Start()
			want, _ := w.start()
			isSaid(first, bytes.Clone(want))
			spoil(first)
			isSaidAgain()
			for i := range 3 {
				response := packet(2, i, 1, sample.Filled(20+seed*15, seed)...)
				want, _ = w.fromPeer(response)
				isSaid(given(t, p.FromPeer, response), want)
				isSaidAgain()
				challenge := o.answer(11, attr(24, sample.Filled(9, seed)...), inEap(packet(1, i+1, 13, sample.Filled(300, seed)...)))
				want, _ = w.fromServer(challenge)
				isSaid(given(t, p.FromServer, challenge), want)
				isSaidAgain()
			}
			response := packet(2, 3, 13)
			want, _ = w.fromPeer(response)
			isSaid(given(t, p.FromPeer, response), want)
			accept := o.answer(2, inEap(end(3, 3)), o.keys(t))
			want, _ = w.fromServer(accept)
			isSaid(given(t, p.FromServer, accept), want)
			o.is(t, port.Open)
		}
	}
}

// What is refused isn't changed, either.
func TestWrongBytesAreUnchanged(t *testing.T) {
	for i := range all(t) {
		for _, b := range packetsOfPeers() {
			given(t, all(t)[i].p.FromPeer, b)
		}
		o := all(t)[i]
		for _, b := range inner() {
			for _, code := range []int{1, 2, 3, 11} {
				given(t, o.p.FromServer, o.answer(code, inEap(b)))
			}
		}
	}
}

// Two gates of one Config share nothing.
func TestGatesAreApart(t *testing.T) {
	c := config()
	one, two := newBoth(t, c), newBoth(t, c)
	one.start(t)
	two.isSo(t)
	two.start(t)
	one.fromPeer(t, packet(2, 0, 1, 'b', 'o', 'b'))
	two.isSo(t)
	two.fromPeer(t, packet(2, 0, 1, 'e', 'v', 'e'))
	one.fromServer(t, one.answer(3, inEap(end(4, 0))))
	two.is(t, port.Waiting)
	one.is(t, port.Shut)
}
