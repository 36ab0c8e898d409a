package port_test

import (
	"bytes"
	"math/rand"
	"testing"

	"tollgate/api"
	"tollgate/port"
)

// Each thing is said so many times, so many ticks apart.
func TestTicks(t *testing.T) {
	for tries := 1; tries <= 5; tries++ {
		for _, wait := range []int{1, 2, 3, 10, 999, 1000} {
			c := config()
			c.Tries, c.Wait = tries, wait
			first := newBoth(t, c)
			first.start(t)
			for i, o := range []*both{first, asking(t, c), waiting(t, c)} {
				said := [2][]byte{}
				said[i/2] = bytes.Clone(o.w.said)
				for n := 1; n <= tries*wait; n++ {
					peer, server := o.tick(t)
					again := n%wait == 0 && n < tries*wait
					if again != bytes.Equal(peer, said[0]) && i < 2 || again != bytes.Equal(server, said[1]) && i == 2 || !again && len(peer)+len(server) > 0 {
						t.Fatalf("%d times, %d ticks, place %d: tick %d: %x, %x", tries, wait, i, n, peer, server)
					}
				}
				o.is(t, port.Lost)
			}
		}
	}
}

// Who neither asks nor waits says nothing.
func TestTicksOfOthers(t *testing.T) {
	for _, o := range all(t) {
		if o.w.state == port.Asking || o.w.state == port.Waiting {
			continue
		}
		for range 50 {
			if peer, server := o.tick(t); len(peer)+len(server) > 0 {
				t.Errorf("it is %d, and says %x, %x", o.w.state, peer, server)
			}
		}
	}
}

// What is said anew counts anew; what is refused doesn't count.
func TestTicksBetween(t *testing.T) {
	c := config()
	c.Tries, c.Wait = 2, 3
	ticks := func(o *both, n int) {
		t.Helper()
		for range n {
			o.tick(t)
		}
	}
	o := newBoth(t, c)
	ticks(o, 7)
	o.start(t)
	ticks(o, 5)
	o.fromPeer(t, packet(2, 0, 1, 'b'))
	ticks(o, 5)
	o.is(t, port.Waiting)
	o.fromServer(t, o.answer(11, inEap(packet(1, 1, 13))))
	ticks(o, 5)
	o.is(t, port.Asking)
	for _, b := range [][]byte{nil, packet(2, 2, 13), packet(1, 1, 13), packet(2, 1, 13, make([]byte, 4090)...)} {
		if _, e := o.fromPeer(t, b); e == api.OK {
			t.Errorf("%.20x is passed on", b)
		}
	}
	if _, e := o.start(t); e != api.ErrState {
		t.Errorf("Start: error %d", e)
	}
	ticks(o, 1)
	o.is(t, port.Lost)
	o.start(t)
	ticks(o, 5)
	o.fromPeer(t, packet(2, 0, 1, 'b'))
	ticks(o, 5)
	for _, b := range [][]byte{nil, o.answer(2, inEap(end(3, 0))), o.answer(1), o.answer(11), o.answer(3, inEap(end(3, 0)))} {
		if _, e := o.fromServer(t, b); e == api.OK {
			t.Errorf("%.20x is taken", b)
		}
	}
	ticks(o, 1)
	o.is(t, port.Lost)
	// A Start that begins behind an end counts from its own beginning.
	o = opened(t, c)
	ticks(o, 100)
	o.start(t)
	ticks(o, 5)
	o.is(t, port.Asking)
	ticks(o, 1)
	o.is(t, port.Lost)
}

// Anything, in any order.
func TestAnything(t *testing.T) {
	var ends [port.Lost + 1]int
	for seed := range 300 {
		r := rand.New(rand.NewSource(int64(seed)))
		c := config()
		c.Tries, c.Wait = 1+r.Intn(5), 1+r.Intn(4)
		o := newBoth(t, c)
		for range 200 {
			step(t, o, r)
			ends[o.w.state]++
		}
	}
	for state, n := range ends {
		if n < 100 {
			t.Errorf("state %d: %d times", state, n)
		}
	}
}

func step(t *testing.T, o *both, r *rand.Rand) {
	t.Helper()
	o.anyStart(t, r)
	switch r.Intn(9) {
	case 0, 1:
		list := packetsOfPeers()
		o.fromPeer(t, list[r.Intn(len(list))])
	case 2, 3, 4:
		o.fromPeer(t, packet(2, o.w.wanted, 1+12*r.Intn(2), make([]byte, r.Intn(3)*r.Intn(200))...))
	case 5:
		o.tick(t)
	default:
		var attrs []byte
		for range r.Intn(3) {
			attrs = append(attrs, attr([]int{24, 18, 26, 24}[r.Intn(4)], make([]byte, r.Intn(9))...)...)
		}
		codes := []int{11, 11, 11, 2, 2, 3, r.Intn(12)}
		if code := codes[r.Intn(len(codes))]; r.Intn(3) > 0 {
			fits := map[int][]byte{2: end(3, o.w.wanted), 3: end(4, o.w.wanted)}[code]
			if fits == nil {
				fits = packet(1, r.Intn(256), 1+12*r.Intn(2), make([]byte, r.Intn(400))...)
			}
			o.fromServer(t, o.answer(code, attrs, inEap(fits), o.keys(t)))
		} else {
			o.fromServer(t, o.answer(code, attrs, inEap(inner()[r.Intn(len(inner()))]), o.key(t, 16+r.Intn(2), 32, 1)))
		}
	}
}

func (o *both) anyStart(t *testing.T, r *rand.Rand) {
	t.Helper()
	if over := o.w.state != port.Asking && o.w.state != port.Waiting; r.Intn(20) == 0 || over && r.Intn(3) == 0 {
		o.start(t)
	}
}
