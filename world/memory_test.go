package world_test

import (
	"testing"

	"tollgate/api"
	"tollgate/house"
	"tollgate/sample"
	"tollgate/server"
	"tollgate/world"
)

func spoil(b []byte) {
	b = b[:cap(b)]
	for i := range b {
		b[i] ^= 0xA5
	}
}

// Whatever becomes of a Config: the world goes on, and another peer comes.
func TestConfigsAreNotKept(t *testing.T) {
	for _, p := range house.Paths([2]int{3800, 4000}) {
		c := home.On(t, p)
		given := c
		lentPeer, lentServer := house.Lend(c.Peer.Tls), house.Lend(c.Server.Tls)
		given.Peer.Tls, given.Server.Tls = lentPeer.Config, lentServer.Config
		given.Port.Secret, given.Server.Secret = sample.Roomy(c.Port.Secret), sample.Roomy(c.Server.Secret)
		w, e := world.New(given)
		if e != api.OK {
			t.Fatal("no world: error ", e)
		}
		o := &both{w, newWords(c), c}
		lentPeer.Unchanged(t)
		lentServer.Unchanged(t)
		lentPeer.Spoil()
		lentServer.Spoil()
		for _, b := range [][]byte{given.Port.Secret, given.Server.Secret} {
			sample.Unchanged(t, "a secret", b, c.Port.Secret)
			spoil(b)
		}
		o.do(t, start())
		o.calm(t, 100)
		o.areIn(t, 1)
		lent := house.Lend(c.Peer.Tls)
		given.Peer.Tls = lent.Config
		o.again(t, given.Peer)
		lent.Unchanged(t)
		lent.Spoil()
		o.do(t, start())
		o.calm(t, 100)
		o.areIn(t, 2)
	}
}

// What is made up isn't changed when it is changed on its way, and what becomes of it is nothing to what is on its way.
func TestBytesAreNotKept(t *testing.T) {
	want := []byte{1, 7, 0, 5, 1}
	for bag := range 4 {
		o := on(t, big())
		o.do(t, start())
		handed := sample.Roomy(want)
		o.doAs(t, inject(bag, handed...), api.OK)
		for at := range 10 {
			o.doAs(t, change(bag, at, 0xFF), api.OK)
			o.doAs(t, twice(bag, at), api.OK)
		}
		sample.Unchanged(t, "what is made up", handed, want)
	}
	o := on(t, big())
	handed := sample.Roomy(want)
	o.doAs(t, inject(world.ToPeer, handed...), api.OK)
	spoil(handed)
	o.doAs(t, deliver(world.ToPeer, 0), api.OK)
}

// Who was let in is told anew each time.
func TestGrantsAreNew(t *testing.T) {
	o := on(t, big())
	o.do(t, start())
	o.calm(t, 100)
	first := o.w.Grants()
	want := first[0]
	first[0] = server.Grant{}
	if second := o.w.Grants(); len(second) != 1 || second[0] != want {
		t.Errorf("%v is let in", second)
	}
	o.areIn(t, 1)
}

// Two worlds of one Config share nothing.
func TestWorldsAreApart(t *testing.T) {
	c := home.On(t, big())
	one, two := newBoth(t, c), newBoth(t, c)
	one.do(t, start())
	one.calm(t, 100)
	one.areIn(t, 1)
	two.hold(t, 0, 0, 0, 0)
	two.do(t, start())
	two.calm(t, 100)
	two.areIn(t, 1)
	one.areIn(t, 1)
}
