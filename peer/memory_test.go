package peer_test

import (
	"bytes"
	"testing"

	"tollgate/api"
	"tollgate/house"
	"tollgate/peer"
	"tollgate/sample"
)

func spoil(b []byte) {
	b = b[:cap(b)]
	for i := range b {
		b[i] ^= 0xA5
	}
}

// Whatever becomes of a Config, of what came, and of what was answered: the talk goes on, and begins anew.
func TestNothingIsKeptOrShared(t *testing.T) {
	t.Parallel()
	for _, p := range house.Paths([2]int{4000, 4000}, [2]int{100, 300}) {
		c, talk := configOn(t, p), talkOn(t, p, 3)
		lent, given := house.Lend(c.Tls), c
		given.Tls = lent.Config
		x, e := peer.New(given)
		if e != api.OK {
			t.Fatal("no peer: error ", e)
		}
		lent.Unchanged(t)
		lent.Spoil()
		for n, list := range [][][]byte{talk[:len(talk)-1], talk[:3], talk} {
			w := &words{c: c}
			for i, b := range list {
				want, _ := w.take(b)
				handed := sample.Roomy(b)
				said, e := x.Take(handed)
				again := said
				if i < len(talk)-1 {
					again, _ = x.Take(handed)
				}
				sample.Unchanged(t, "a packet", handed, b)
				spoil(handed)
				if e != api.OK || !bytes.Equal(said, want) || !bytes.Equal(again, want) {
					t.Fatalf("%v, %d: packet %d: %.20x, again %.20x, not %.20x, error %d", p, n, i, said, again, want, e)
				}
				spoil(said)
				if i < len(talk)-1 {
					if third, _ := x.Take(b); !bytes.Equal(again, want) || !bytes.Equal(third, want) {
						t.Fatalf("%v, %d: packet %d: answers are shared", p, n, i)
					}
				}
			}
		}
		if x.State() != peer.Accepted {
			t.Errorf("%v: it is %d", p, x.State())
		}
		keptIsNew(t, x, reached(t, c, talk, len(talk)))
	}
}

// keptIsNew: a peer keeps what one keeps that did the same; what becomes of it is nothing to the next answer.
func keptIsNew(t *testing.T, x *peer.Peer, same *both) {
	t.Helper()
	want, _ := same.w.method.Saved()
	first, ok := x.Saved()
	if !house.SameSaved(first, want) {
		t.Errorf("%v is kept, not %v", first, want)
	}
	spoil(first.Ticket)
	spoil(first.Peer.Key)
	if second, _ := x.Saved(); !ok || !house.SameSaved(second, want) {
		t.Error("what is kept is shared")
	}
}

// Wrong packets stay as they are, and an alert is new memory.
func TestWrongPacketsAreUnchanged(t *testing.T) {
	t.Parallel()
	p := house.Path{Sizes: [2]int{4000, 4000}}
	c, talk := configOn(t, p), talkOn(t, p, 3)
	for _, b := range append(packetsBehind(talk[1]), tlsPackets(talk[1])...) {
		o := reached(t, c, talk, 2)
		handed := sample.Roomy(b)
		said, _ := o.p.Take(handed)
		sample.Unchanged(t, "a packet", handed, b)
		spoil(said)
		sample.Unchanged(t, "a packet", handed, b)
	}
}

// Two peers of one Config share nothing.
func TestPeersAreApart(t *testing.T) {
	t.Parallel()
	p := house.Path{Resumed: true, Sizes: [2]int{50, 50}}
	c, talk := configOn(t, p), talkOn(t, p, 3)
	one, two, idle := newBoth(t, c), newBoth(t, c), newBoth(t, c)
	for _, b := range talk {
		one.goOn(t, [][]byte{b})
		two.goOn(t, [][]byte{b})
	}
	one.is(t, peer.Accepted)
	two.is(t, peer.Accepted)
	idle.is(t, peer.Idle)
}
