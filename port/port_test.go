package port_test

import (
	"bytes"
	"math"
	"slices"
	"testing"

	"tollgate/api"
	"tollgate/port"
	"tollgate/radius"
	"tollgate/sample"
)

func TestNames(t *testing.T) {
	if port.Idle != 0 || port.Asking != 1 || port.Waiting != 2 || port.Open != 3 || port.Shut != 4 || port.Lost != 5 {
		t.Error("a state has another number")
	}
}

func TestExample(t *testing.T) {
	o := newBoth(t, config())
	o.is(t, port.Idle)
	if b, e := o.start(t); e != api.OK || string(b) != "\x01\x00\x00\x05\x01" {
		t.Errorf("%x, error %d", b, e)
	}
	o.is(t, port.Asking)
}

func TestNew(t *testing.T) {
	isMade := func(c port.Config, want api.Errno) {
		t.Helper()
		p, e := port.New(c)
		if e != want || (p == nil) != (want != api.OK) {
			t.Errorf("a secret of %d bytes, %d times, %d ticks: error %d, not %d", len(c.Secret), c.Tries, c.Wait, e, want)
		}
	}
	for n := range 110 {
		c := config()
		c.Secret = make([]byte, n)
		isMade(c, map[bool]api.Errno{true: api.OK, false: api.ErrArg}[n >= 1 && n <= 100])
	}
	for want, list := range map[api.Errno][]int{
		api.OK:     {1, 2, 3, 4, 5},
		api.ErrArg: {math.MinInt, -5, -1, 0, 6, 7, 256 + 1, 1<<32 + 1, math.MaxInt},
	} {
		for _, n := range list {
			c := config()
			c.Tries = n
			isMade(c, want)
		}
	}
	for want, list := range map[api.Errno][]int{
		api.OK:     {1, 2, 500, 999, 1000},
		api.ErrArg: {math.MinInt, -1000, -1, 0, 1001, 1<<16 + 1, 1<<32 + 1, math.MaxInt},
	} {
		for _, n := range list {
			c := config()
			c.Wait = n
			isMade(c, want)
		}
	}
	if p, e := port.New(port.Config{Tries: 1, Wait: 1}); p != nil || e != api.ErrArg {
		t.Errorf("without a secret: error %d", e)
	}
}

// What the server is asked, part by part.
func TestAsks(t *testing.T) {
	o := newBoth(t, config())
	o.start(t)
	isAsked := func(b []byte, id int, kinds ...int) {
		t.Helper()
		said, e := o.fromPeer(t, b)
		isAs(t, e, api.OK)
		p, e := radius.Open(said, o.w.c.Secret)
		isAs(t, e, api.OK)
		var got []int
		for _, a := range p.Attrs {
			got = append(got, a.Kind)
		}
		if p.Code != radius.Ask || p.Id != id || p.Auth != authOf(o.w.c.Draw, id) || !slices.Equal(got, kinds) || !bytes.Equal(radius.Join(p.Attrs), b) {
			t.Errorf("Id %d, kinds %v, Eap %x", p.Id, got, radius.Join(p.Attrs))
		}
		if name, ok := radius.Find(p.Attrs, radius.User); ok && string(name) != "bob" {
			t.Errorf("the name is %q", name)
		}
		if state, ok := radius.Find(p.Attrs, radius.State); ok && string(state) != "\x09\x09" {
			t.Errorf("State is %x", state)
		}
		o.is(t, port.Waiting)
	}
	isTold := func(b []byte, attrs ...[]byte) {
		t.Helper()
		said, e := o.fromServer(t, o.answer(11, append(attrs, inEap(b))...))
		if e != api.OK || !bytes.Equal(said, b) {
			t.Errorf("%x is told, not %x, error %d", said, b, e)
		}
		o.is(t, port.Asking)
	}
	isAsked(packet(2, 0, 1, 'b', 'o', 'b'), 0, 1, 79)
	isTold(packet(1, 7, 13, 0x20), attr(24, 9, 9))
	isAsked(packet(2, 7, 13, sample.Filled(300, 1)...), 1, 1, 24, 79, 79)
	isTold(packet(1, 3, 13, sample.Filled(600, 1)...))
	isAsked(packet(2, 3, 13, sample.Filled(253*2-5, 1)...), 2, 1, 79, 79)
	isTold(packet(1, 255, 1), attr(24, 9, 9), attr(24, 8))
	isAsked(packet(2, 255, 1, 'e', 'v', 'e'), 3, 1, 24, 79)
	o.fromServer(t, o.answer(3, inEap(end(4, 255))))
	o.is(t, port.Shut)
	o.start(t)
	isAsked(packet(2, 0, 3, 13), 4, 79)
}

// The number of Asks goes on, whoever wants to come in: it is four bytes of what Auth is drawn of, and one of the Id.
func TestNumbers(t *testing.T) {
	t.Parallel()
	c := config()
	c.Tries, c.Wait = 1, 1
	p, _ := port.New(c)
	for n := range 1<<16 + 300 {
		if p.Start(); n%256 == 3 {
			// What can't be asked has no number.
			p.FromPeer(packet(2, 0, 1, make([]byte, 4090)...))
			p.FromPeer(packet(2, 1, 1))
		}
		said, e := p.FromPeer(packet(2, 0, 1))
		if e != api.OK {
			t.Fatalf("Ask %d: error %d", n, e)
		}
		if auth := authOf(c.Draw, n); int(said[1]) != n%256 || !bytes.Equal(said[4:20], auth[:]) {
			t.Fatalf("Ask %d: %x, not %x", n, said[:20], auth)
		}
		p.Tick()
	}
	// Another Draw, another Auth.
	for i := range c.Draw {
		other := c
		other.Draw[i] ^= 1
		o := newBoth(t, other)
		o.start(t)
		o.fromPeer(t, packet(2, 0, 1))
	}
}

// The name: the first that is neither empty nor too long; each Start forgets it.
func TestUsers(t *testing.T) {
	for n := range 260 {
		o := newBoth(t, config())
		o.start(t)
		said, _ := o.fromPeer(t, packet(2, 0, 1, bytes.Repeat([]byte{'x'}, n)...))
		p, e := radius.Open(said, o.w.c.Secret)
		isAs(t, e, api.OK)
		if name, ok := radius.Find(p.Attrs, radius.User); ok != (n >= 1 && n <= 253) || ok && len(name) != n {
			t.Errorf("a name of %d bytes: %v, %x", n, ok, name)
		}
	}
	names := []string{"", "bob", string(make([]byte, 253)), string(make([]byte, 254)), "eve", "\x00"}
	for _, first := range names {
		for _, second := range names {
			for _, third := range names {
				o := newBoth(t, config())
				for range 2 {
					o.start(t)
					for i, name := range []string{first, second, third} {
						o.fromPeer(t, packet(2, i, 1, []byte(name)...))
						o.fromServer(t, o.answer(11, inEap(packet(1, i+1, 1))))
					}
					// What another type has is no name.
					o.fromPeer(t, packet(2, 3, 3, 'z'))
					o.fromServer(t, o.answer(3, inEap(end(4, 3))))
				}
			}
		}
	}
	// A name in what is refused isn't known.
	o := newBoth(t, config())
	o.start(t)
	for _, b := range [][]byte{packet(2, 1, 1, 'e', 'v', 'e'), packet(1, 0, 1, 'e', 'v', 'e'), append(packet(2, 0, 1, 'e', 'v', 'e'), 0)} {
		o.fromPeer(t, b)
	}
	o.fromPeer(t, packet(2, 0, 4, 'm', 'e'))
	o.fromPeer(t, packet(2, 0, 1, 'e', 'v', 'e'))
	o.fromServer(t, o.answer(11, inEap(packet(1, 1, 1))))
	o.fromPeer(t, packet(2, 1, 1, 'b', 'o', 'b'))
	if !bytes.Equal(o.w.user, attr(1, 'b', 'o', 'b')) {
		t.Errorf("the name is %q", o.w.user)
	}
}

// The State: the first one of the last Challenge, an empty one too; each Start forgets it.
func TestStates(t *testing.T) {
	lists := [][]byte{nil, attr(24), attr(24, 1), attr(24, make([]byte, 8)...), attr(24, make([]byte, 253)...), slices.Concat(attr(24, 1, 2), attr(24, 3, 4)), slices.Concat(attr(24), attr(24, 3, 4)), attr(25, 1)}
	for _, first := range lists {
		for _, second := range lists {
			o := newBoth(t, config())
			for range 2 {
				o.start(t)
				o.fromPeer(t, packet(2, 0, 1, 'b'))
				o.fromServer(t, o.answer(11, first, inEap(packet(1, 1, 13))))
				o.fromPeer(t, packet(2, 1, 13))
				// Behind the packet it is known, too.
				o.fromServer(t, o.answer(11, inEap(packet(1, 2, 13)), second))
				o.fromPeer(t, packet(2, 2, 13))
				o.fromServer(t, o.answer(3, inEap(end(4, 2)), attr(24, 7)))
				o.is(t, port.Shut)
			}
		}
	}
}

// As much as there may be, and a byte more: that can't be asked, and changes nothing.
func TestBigResponses(t *testing.T) {
	for _, state := range [][]byte{nil, attr(24, 1, 2, 3, 4, 5, 6, 7, 8), attr(24, make([]byte, 253)...)} {
		for _, name := range []string{"", "bob", string(make([]byte, 253))} {
			sizes := [2]int{}
			for n := 3400; n <= 4091; n++ {
				o := newBoth(t, config())
				o.start(t)
				o.fromPeer(t, packet(2, 0, 1, []byte(name)...))
				o.fromServer(t, o.answer(11, state, inEap(packet(1, 1, 13))))
				big := packet(2, 1, 13, make([]byte, n)...)
				said, e := o.fromPeer(t, big)
				if e == api.OK {
					sizes[0] = max(sizes[0], len(said))
					continue
				}
				sizes[1]++
				isAs(t, e, api.ErrForm)
				o.is(t, port.Asking)
				o.tick(t)
				if again, _ := o.tick(t); !bytes.Equal(again, packet(1, 1, 13)) {
					t.Errorf("%x is said again", again)
				}
				o.fromPeer(t, packet(2, 1, 13, 5))
				if n > 3450 && n < 4080 {
					n += 60
				}
			}
			if sizes[0] < 4090 || sizes[0] > 4096 || sizes[1] == 0 {
				t.Errorf("%x, %d bytes of a name: %d bytes at most, %d are too big", state, len(name), sizes[0], sizes[1])
			}
		}
	}
	// A name that can't be told with the rest isn't known then: here the packet alone is too big.
	o := newBoth(t, config())
	o.start(t)
	_, e := o.fromPeer(t, packet(2, 0, 1, make([]byte, 4091)...))
	isAs(t, e, api.ErrForm)
	_, e = o.fromPeer(t, packet(2, 0, 1, make([]byte, 4092)...))
	isAs(t, e, api.ErrForm)
	_, e = o.fromPeer(t, packet(2, 0, 1, 'b'))
	isAs(t, e, api.OK)
}

// all are gates in each state.
func all(t *testing.T) []*both {
	t.Helper()
	first := newBoth(t, config())
	first.start(t)
	return []*both{newBoth(t, config()), first, asking(t, config()), waiting(t, config()), opened(t, config()), shut(t, config()), lost(t, config())}
}

// Start begins anew, but where somebody is waited for.
func TestStart(t *testing.T) {
	for _, o := range all(t) {
		busy := o.w.state == port.Asking || o.w.state == port.Waiting
		for range 2 {
			b, e := o.start(t)
			if busy {
				isAs(t, e, api.ErrState)
			} else if e != api.OK || !bytes.Equal(b, []byte{1, 0, 0, 5, 1}) {
				t.Errorf("%x, error %d", b, e)
			}
			busy = true
		}
	}
	// All goes on as the first time, but for the number.
	o := opened(t, config())
	o.start(t)
	if k, ok := o.p.Keys(); ok || k != [64]byte{} {
		t.Error("one that asks has keys")
	}
	o.fromPeer(t, packet(2, 0, 1, 'e', 'v', 'e'))
	o.fromServer(t, o.answer(2, inEap(end(3, 0)), o.key(t, 16, 32, 3), o.key(t, 17, 32, 4)))
	o.is(t, port.Open)
}

func TestNoPort(t *testing.T) {
	for _, p := range []*port.Port{nil, {}} {
		if b, e := p.Start(); e != api.ErrArg || len(b) > 0 {
			t.Errorf("Start: %x, error %d", b, e)
		}
		for _, b := range [][]byte{nil, {1}, packet(2, 0, 1), end(3, 0), make([]byte, 5000), answerOf(2, 0, [16]byte{}, nil, nil)} {
			if said, e := p.FromPeer(b); e != api.ErrArg || len(said) > 0 {
				t.Errorf("%.20x from the peer: %x, error %d", b, said, e)
			}
			if said, e := p.FromServer(b); e != api.ErrArg || len(said) > 0 {
				t.Errorf("%.20x from the server: %x, error %d", b, said, e)
			}
		}
		if peer, server := p.Tick(); len(peer) > 0 || len(server) > 0 {
			t.Errorf("a tick: %x, %x", peer, server)
		}
		if k, ok := p.Keys(); p.State() != port.Shut || ok || k != [64]byte{} {
			t.Errorf("it is %d, keys %v", p.State(), ok)
		}
	}
}
