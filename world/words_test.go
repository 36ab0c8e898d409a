package world_test

import (
	"bytes"
	"fmt"
	"slices"
	"testing"

	"tollgate/api"
	"tollgate/house"
	"tollgate/method"
	"tollgate/peer"
	"tollgate/port"
	"tollgate/server"
	"tollgate/town"
	"tollgate/world"
)

var home town.Town

// words is what a world must be, by the document's words: just its three, and what is on its way between them.
type words struct {
	peer   *peer.Peer
	port   *port.Port
	server *server.Server
	bags   [4][][]byte
}

func newWords(c world.Config) *words {
	w := &words{}
	w.peer, _ = peer.New(c.Peer)
	w.port, _ = port.New(c.Port)
	w.server, _ = server.New(c.Server)
	return w
}

func (w *words) say(bag int, b []byte) {
	if len(b) > 0 && len(w.bags[bag]) < 100 {
		w.bags[bag] = append(w.bags[bag], bytes.Clone(b))
	}
}

func (w *words) do(s world.Step) api.Errno {
	switch s.What {
	case 0:
		said, e := w.port.Start()
		w.say(0, said)
		return e
	case 6:
		w.peer.Tick()
		w.server.Tick()
		toPeer, toServer := w.port.Tick()
		w.say(0, toPeer)
		w.say(2, toServer)
		return api.OK
	case 1, 2, 3, 4, 5:
		if s.Bag < 0 || s.Bag > 3 || s.What != 5 && len(w.bags[s.Bag]) == 0 {
			return api.ErrMiss
		}
		return w.doTo(s)
	}
	return api.ErrArg
}

func (w *words) doTo(s world.Step) api.Errno {
	bag := w.bags[s.Bag]
	full := len(bag) >= 100
	if s.What == 5 {
		switch {
		case len(s.Bytes) > 4096:
			return api.ErrBig
		case full:
			return api.ErrFull
		}
		w.say(s.Bag, s.Bytes)
		return api.OK
	}
	i := int(uint(s.At) % uint(len(bag)))
	m := bag[i]
	switch s.What {
	case 1, 2:
		w.bags[s.Bag] = append(slices.Clone(bag[:i]), bag[i+1:]...)
		if s.What == 1 {
			return w.deliver(s.Bag, m)
		}
	case 3:
		if full {
			return api.ErrFull
		}
		w.say(s.Bag, m)
	case 4:
		m[uint(s.At)%uint(len(m))] ^= s.By
	}
	return api.OK
}

func (w *words) deliver(bag int, m []byte) api.Errno {
	told := []func([]byte) ([]byte, api.Errno){w.peer.Take, w.port.FromPeer, w.server.Take, w.port.FromServer}
	said, e := told[bag](m)
	w.say([]int{1, 2, 3, 0}[bag], said)
	return e
}

// calm is how often messages are delivered.
func (w *words) calm(most int) int {
	for n := range max(most, 0) {
		bag := slices.IndexFunc(w.bags[:], func(b [][]byte) bool { return len(b) > 0 })
		if bag < 0 {
			return n
		}
		w.do(world.Step{What: 1, Bag: bag})
	}
	return max(most, 0)
}

func (w *words) look() world.Look {
	l := world.Look{Peer: w.peer.State(), Port: w.port.State(), Talks: w.server.Talks(), Kept: w.server.Kept()}
	for i, b := range w.bags {
		l.Bags[i] = len(b)
	}
	return l
}

// both are a world, and what it must be.
type both struct {
	w *world.World
	m *words
	c world.Config
}

func newBoth(t *testing.T, c world.Config) *both {
	t.Helper()
	w, e := world.New(c)
	if e != api.OK || w == nil {
		t.Fatalf("no world: error %d", e)
	}
	o := &both{w, newWords(c), c}
	o.isSo(t)
	return o
}

// big is a path of a few packets; on are worlds on a path.
func big() house.Path { return house.Path{Sizes: [2]int{3800, 4000}} }

func on(t *testing.T, p house.Path) *both {
	t.Helper()
	return newBoth(t, home.On(t, p))
}

// do lets a step happen to both, and holds all that the world tells against the words.
func (o *both) do(t *testing.T, s world.Step) world.Look {
	t.Helper()
	l, e := o.w.Do(s), o.m.do(s)
	want := o.m.look()
	want.Err = e
	if l != want {
		t.Errorf("%s: %v, not %v", named(s), l, want)
	}
	o.isSo(t)
	return l
}

// doAs is do, where the error is plain.
func (o *both) doAs(t *testing.T, s world.Step, want api.Errno) {
	t.Helper()
	if l := o.do(t, s); l.Err != want {
		t.Errorf("%s: error %d, not %d", named(s), l.Err, want)
	}
}

func (o *both) calm(t *testing.T, most int) int {
	t.Helper()
	n, want := o.w.Calm(most), o.m.calm(most)
	if n != want {
		t.Errorf("%d at most: %d are delivered, not %d", most, n, want)
	}
	o.isSo(t)
	return n
}

func (o *both) again(t *testing.T, c peer.Config) api.Errno {
	t.Helper()
	e := o.w.Again(c)
	p, want := peer.New(c)
	if want == api.OK {
		o.m.peer = p
	}
	if e != want {
		t.Errorf("another peer: error %d, not %d", e, want)
	}
	o.isSo(t)
	return e
}

// isSo holds all that a world tells without a step against the words.
func (o *both) isSo(t *testing.T) {
	t.Helper()
	if l := o.w.Look(); l != o.m.look() {
		t.Errorf("it stands %v, not %v", l, o.m.look())
	}
	k, ok := o.w.PeerKeys()
	if want, wantOk := o.m.peer.Keys(); k != want || ok != wantOk {
		t.Errorf("the peer's keys: %v, not %v, or others", ok, wantOk)
	}
	g, ok := o.w.PortKeys()
	if want, wantOk := o.m.port.Keys(); g != want || ok != wantOk {
		t.Errorf("the gate's keys: %v, not %v, or others", ok, wantOk)
	}
	if !slices.Equal(o.w.Grants(), o.m.server.Grants()) {
		t.Errorf("%d are let in, not %d, or others", len(o.w.Grants()), len(o.m.server.Grants()))
	}
}

// stands tells a fault, if peer and gate stand otherwise.
func (o *both) stands(t *testing.T, p peer.State, g port.State) {
	t.Helper()
	if l := o.w.Look(); l.Peer != p || l.Port != g {
		t.Errorf("the peer is %d, not %d, the gate %d, not %d", l.Peer, p, l.Port, g)
	}
}

// hold tells a fault, if the bags hold other numbers of messages.
func (o *both) hold(t *testing.T, want ...int) {
	t.Helper()
	if l := o.w.Look(); !slices.Equal(l.Bags[:], want) {
		t.Errorf("the bags hold %v, not %v", l.Bags, want)
	}
}

// areIn tells a fault, unless peer, gate and the last one who was let in have the same keys, and so many were let in.
func (o *both) areIn(t *testing.T, count int) {
	t.Helper()
	o.stands(t, peer.Accepted, port.Open)
	k, ok := o.w.PeerKeys()
	g, too := o.w.PortKeys()
	l := o.w.Grants()
	if !ok || !too || g != k.Msk || k == (method.Keys{}) || len(l) != count || l[count-1].Keys != k || l[count-1].Name != "client" {
		t.Errorf("keys %v, %v, %d are let in", ok, too, len(l))
	}
}

func named(s world.Step) string {
	return fmt.Sprintf("step %d, bag %d, at %d, by %d, %d bytes", s.What, s.Bag, s.At, s.By, len(s.Bytes))
}

func start() world.Step { return world.Step{What: world.Start} }

func tick() world.Step { return world.Step{What: world.Tick} }

func deliver(bag, at int) world.Step { return world.Step{What: world.Deliver, Bag: bag, At: at} }

func drop(bag, at int) world.Step { return world.Step{What: world.Drop, Bag: bag, At: at} }

func twice(bag, at int) world.Step { return world.Step{What: world.Twice, Bag: bag, At: at} }

func change(bag, at int, by byte) world.Step {
	return world.Step{What: world.Change, Bag: bag, At: at, By: by}
}

func inject(bag int, b ...byte) world.Step {
	return world.Step{What: world.Inject, Bag: bag, Bytes: b}
}
