package peer_test

import (
	"math"
	"strings"
	"testing"

	"tollgate/api"
	"tollgate/house"
	"tollgate/peer"
)

func TestNames(t *testing.T) {
	if peer.Idle != 0 || peer.Talking != 1 || peer.Accepted != 2 || peer.Failed != 3 || peer.Lost != 4 {
		t.Error("a state has another number")
	}
}

func TestExamples(t *testing.T) {
	o := newBoth(t, configOn(t, house.Path{Sizes: [2]int{100, 100}}))
	o.takeAs(t, []byte{1, 7, 0, 5, 1}, []byte("\x02\x07\x00\x08\x01bob"), api.OK)
	o.is(t, peer.Talking)
	o.takeAs(t, []byte{1, 8, 0, 5, 4}, []byte{2, 8, 0, 6, 3, 13}, api.OK)
	o.is(t, peer.Talking)
}

func TestNew(t *testing.T) {
	right := configOn(t, house.Path{Sizes: [2]int{100, 100}})
	isMade := func(c peer.Config, want api.Errno) {
		t.Helper()
		p, e := peer.New(c)
		if e != want || (p == nil) != (want != api.OK) {
			t.Errorf("a name of %d bytes, pieces of %d, %d ticks: error %d, not %d", len(c.Name), c.Size, c.Wait, e, want)
		}
	}
	for n := range 70 {
		c := right
		c.Name = strings.Repeat("\xFF", n)
		isMade(c, map[bool]api.Errno{true: api.OK, false: api.ErrArg}[n <= 64])
	}
	for want, list := range map[api.Errno][]int{
		api.OK:     {1, 2, 500, 999, 1000},
		api.ErrArg: {math.MinInt, -1000, -1, 0, 1001, 1 << 16, 1<<32 + 1, math.MaxInt},
	} {
		for _, wait := range list {
			c := right
			c.Wait = wait
			isMade(c, want)
		}
	}
	for want, list := range map[api.Errno][]int{
		api.OK:     {16, 17, 3999, 4000},
		api.ErrArg: {math.MinInt, -100, -1, 0, 15, 4001, 1<<32 + 100, math.MaxInt},
	} {
		for _, size := range list {
			c := right
			c.Size = size
			isMade(c, want)
		}
	}
	// No certificate, no roots: what is wrong with these a talk tells.
	isMade(peer.Config{Size: 16, Wait: 1}, api.OK)
}

// A talk from its beginning to its end; whatever comes then.
func TestTalks(t *testing.T) {
	for _, p := range house.Paths([2]int{4000, 4000}, [2]int{100, 300}, [2]int{16, 4000}, [2]int{4000, 16}, [2]int{17, 20}) {
		t.Run(p.String(), func(t *testing.T) {
			t.Parallel()
			c, talk := configOn(t, p), talkOn(t, p, 0)
			o := newBoth(t, c)
			o.is(t, peer.Idle)
			for i, b := range talk {
				said, e := o.take(t, b)
				if e != api.OK || (len(said) > 0) != (i < len(talk)-1) || len(said) > 0 && int(said[1]) != i%256 || len(said) > max(5+c.Size, 8) {
					t.Fatalf("packet %d: %.20x (%d bytes), error %d", i, said, len(said), e)
				}
				if i < len(talk)-1 {
					o.is(t, peer.Talking)
				}
			}
			o.is(t, peer.Accepted)
			k, ok := o.p.Keys()
			if v, kept := o.p.Saved(); !ok || !kept || v.Peer.Subject != "server" || k.Session[0] != 13 || o.p.Other() != "server" {
				t.Errorf("keys %v, keeps %v, other end %q", ok, kept, o.p.Other())
			}
			isOver(t, o, talk)
		})
	}
}

// isOver: a peer that takes nothing more stays as it is.
func isOver(t *testing.T, o *both, talk [][]byte) {
	t.Helper()
	stands := o.p.State()
	for _, b := range append(packetsBehind(talk[len(talk)-2]), talk...) {
		if said, e := o.take(t, b); e == api.OK || len(said) > 0 {
			t.Errorf("%.20x: %.20x, error %d", b, said, e)
		}
	}
	o.takeAs(t, talk[0], nil, api.ErrState)
	o.tick(t, o.w.c.Wait+1)
	o.is(t, stands)
}

// What is kept of one talk serves for the next one.
func TestTicketsServe(t *testing.T) {
	t.Parallel()
	p := house.Path{Sizes: [2]int{300, 300}}
	first := talkOn(t, p, 9)
	v, ok := reached(t, configOn(t, p), first, len(first)).p.Saved()
	if !ok {
		t.Fatal("nothing is kept")
	}
	p.Resumed = true
	c, second := configOn(t, p), talkOn(t, p, 9)
	c.Tls.Saved = v
	o := reached(t, c, second, len(second))
	o.is(t, peer.Accepted)
	if len(second) >= len(first) {
		t.Errorf("%d packets, not fewer than %d", len(second), len(first))
	}
}

// Ids are bytes: behind 255 comes 0.
func TestIds(t *testing.T) {
	t.Parallel()
	p := house.Path{Sizes: [2]int{300, 300}}
	c := configOn(t, p)
	for _, first := range []int{1, 127, 250, 254, 255} {
		talk := talkOn(t, p, first)
		o := reached(t, c, talk, len(talk))
		o.is(t, peer.Accepted)
	}
}

// The method's error is answered; its alert is, too.
func TestTalksThatFail(t *testing.T) {
	t.Parallel()
	p := house.Path{Sizes: [2]int{4000, 4000}}
	talk := talkOn(t, p, 0)
	wrong := map[string]func(*peer.Config){
		"time":  func(c *peer.Config) { c.Tls.Now = house.Until + 1 },
		"roots": func(c *peer.Config) { c.Tls.Roots = nil },
		"draw":  func(c *peer.Config) { c.Tls.Draw[0]++ },
	}
	want := map[string]api.Errno{"time": api.ErrTime, "roots": api.ErrTrust, "draw": api.ErrMac}
	for what, change := range wrong {
		c := configOn(t, p)
		change(&c)
		o := reached(t, c, talk, 2)
		said, e := o.take(t, talk[2])
		// A sealed alert: 5 bytes of head, 2 within, a kind, a tag.
		if e != want[what] || len(said) != 5+1+5+2+1+16 || said[0] != 2 || said[1] != talk[2][1] || said[4] != 13 {
			t.Errorf("%s: %.20x (%d bytes), error %d", what, said, len(said), e)
		}
		o.is(t, peer.Failed)
		isOver(t, o, talk)
	}
	// Without an alert nothing is said.
	o := reached(t, configOn(t, p), talk, 1)
	o.takeAs(t, packet(1, 1, 13), nil, api.ErrForm)
	o.is(t, peer.Failed)
	o = reached(t, configOn(t, p), talk, 2)
	o.takeAs(t, packet(1, 2, 13, 0, 21, 3, 3, 0, 2, 2, 40), nil, api.ErrAlert)
	o.is(t, peer.Failed)
	// A bare alert.
	o = reached(t, configOn(t, p), talk, 2)
	o.takeAs(t, packet(1, 2, 13, 0, 22, 3, 3, 0, 0), []byte{2, 2, 0, 13, 13, 0, 21, 3, 3, 0, 2, 2, 50}, api.ErrForm)
	o.is(t, peer.Failed)
}

func TestNoPeer(t *testing.T) {
	for _, p := range []*peer.Peer{nil, {}} {
		for _, b := range [][]byte{nil, {}, {1}, {1, 7, 0, 5, 1}, {2, 7, 0, 5, 1}, end(3, 0), end(4, 0), make([]byte, 5000)} {
			if said, e := p.Take(b); e != api.ErrArg || len(said) > 0 {
				t.Errorf("%.20x: %x, error %d", b, said, e)
			}
		}
		p.Tick()
		k, ok := p.Keys()
		if v, kept := p.Saved(); p.State() != peer.Failed || ok || k.Session[0] != 0 || kept || len(v.Ticket) > 0 || p.Other() != "" {
			t.Errorf("state %d, keys %v, keeps %v", p.State(), ok, kept)
		}
	}
}
