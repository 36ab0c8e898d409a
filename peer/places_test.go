package peer_test

import (
	"bytes"
	"math/rand"
	"slices"
	"strconv"
	"sync/atomic"
	"testing"

	"tollgate/api"
	"tollgate/house"
	"tollgate/peer"
	"tollgate/sample"
)

// packetsBehind are such that may come behind a Request: right ones, and wrong ones of each kind.
func packetsBehind(last []byte) [][]byte {
	id := int(last[1])
	next, ahead := (id+1)%256, (id+255)%256
	list := [][]byte{nil, {}, {1}, {1, byte(id), 0}, {0, byte(id), 0, 4}, {5, byte(id), 0, 4}, {1, byte(id), 0, 4}, {1, byte(id), 0, 5, 0}, {1, byte(id), 0, 6, 1}, {1, byte(id), 0, 5, 1, 0},
		{3, byte(id), 0, 5, 0}, {4, byte(id), 0, 5, 1}, {3, byte(id), 0, 3}, {4, byte(id), 0, 4, 0}, {3, byte(id), 0, 5}, append(packet(1, next, 4), make([]byte, 3)...),
		slices.Concat([]byte{1, byte(next), 16, 1, 4}, make([]byte, most-4)), packet(1, next, 4, make([]byte, most-5)...), packet(1, next, 1, make([]byte, most-5)...)}
	for _, i := range []int{id, next, ahead, 0, 255, 77} {
		for _, kind := range []int{1, 2, 3, 4, 12, 14, 25, 254, 255} {
			list = append(list, packet(1, i, kind), packet(2, i, kind, 13), packet(1, i, kind, sample.Filled(9, i)...))
		}
		list = append(list, packet(2, i, 13), packet(2, i, 13, 0), packet(2, i, 13, 0x20), end(3, i), end(4, i))
	}
	return append(list, last, last[:len(last)-1], append(bytes.Clone(last), 0))
}

// tlsPackets are Requests that a method takes, or refuses.
func tlsPackets(last []byte) [][]byte {
	var list [][]byte
	for _, i := range []int{int(last[1]), int(last[1]+1) % 256} {
		for _, data := range [][]byte{nil, {0x20}, {0}, {0x40}, {0x20, 0}, {0xC0, 0, 0, 0, 9, 22}, {0xC0, 0, 1, 0, 0, 22}, {0, 21, 3, 3, 0, 2, 2, 40}, {0, 22, 3, 3, 0, 0}, {0x40, 22}} {
			list = append(list, packet(1, i, 13, data...))
		}
	}
	return list
}

// eachPlace lets f look at each place of each path, where a peer waits for the packet at.
func eachPlace(t *testing.T, list []house.Path, f func(t *testing.T, c peer.Config, talk [][]byte, at int)) {
	for _, p := range list {
		c, talk := configOn(t, p), talkOn(t, p, 5)
		for at := range talk {
			t.Run(p.String()+", packet "+strconv.Itoa(at), func(t *testing.T) {
				t.Parallel()
				f(t, c, talk, at)
			})
		}
	}
}

func lastOf(talk [][]byte, at int) []byte {
	if at == 0 {
		return packet(1, 40, 1)
	}
	return talk[at-1]
}

// What is refused, but by the method, changes nothing: all of it comes, and then the rest of the talk. It doesn't count
// as a packet, either.
func TestWhatIsRefusedChangesNothing(t *testing.T) {
	eachPlace(t, house.Paths([2]int{4000, 4000}, [2]int{200, 400}), func(t *testing.T, c peer.Config, talk [][]byte, at int) {
		c.Wait = 3
		o := reached(t, c, talk, at)
		n := 0
		for _, b := range packetsBehind(lastOf(talk, at)) {
			w := *o.w
			if _, e := w.take(b); e == api.OK {
				continue
			}
			n++
			o.take(t, b)
		}
		if n < 60 {
			t.Errorf("place %d: %d packets are refused", at, n)
		}
		o.goOn(t, talk[at:])
		o.is(t, peer.Accepted)
	})
}

// What is taken, and what the method refuses: each alone, and then the rest of the talk, as far as it is taken.
func TestWhatIsTaken(t *testing.T) {
	eachPlace(t, house.Paths([2]int{4000, 4000})[1:3], func(t *testing.T, c peer.Config, talk [][]byte, at int) {
		last := lastOf(talk, at)
		for _, b := range append(packetsBehind(last), tlsPackets(last)...) {
			if wrongBytes(b) != api.OK || b[0] == 2 {
				continue
			}
			o := reached(t, c, talk, at)
			o.take(t, b)
			o.take(t, talk[at])
			o.take(t, b)
			for _, next := range talk[at+1:] {
				o.take(t, next)
			}
		}
	})
}

// A Request that comes again is answered again; one that is older is not.
func TestRepeated(t *testing.T) {
	eachPlace(t, house.Paths([2]int{4000, 4000}, [2]int{150, 90}), func(t *testing.T, c peer.Config, talk [][]byte, at int) {
		if at == 0 {
			return
		}
		o := reached(t, c, talk, at)
		want := bytes.Clone(o.w.said)
		for range 3 {
			o.takeAs(t, talk[at-1], want, api.OK)
		}
		o.takeAs(t, end(4, int(talk[at-1][1])+1), nil, api.ErrState)
		o.takeAs(t, talk[at-1], want, api.OK)
		o.goOn(t, talk[at:])
		o.is(t, peer.Accepted)
	})
}

// Identity gives up what was under way: the talk begins anew, from any place.
func TestIdentityBeginsAnew(t *testing.T) {
	eachPlace(t, house.Paths([2]int{4000, 4000}, [2]int{300, 200}), func(t *testing.T, c peer.Config, talk [][]byte, at int) {
		for _, again := range [][]byte{packet(1, 77, 1), packet(1, 77, 1, 'w', 'h', 'o'), talk[0]} {
			if at == 1 && bytes.Equal(again, talk[0]) {
				continue
			}
			o := reached(t, c, talk, at)
			o.takeAs(t, again, packet(2, int(again[1]), 1, []byte("bob")...), api.OK)
			o.takeAs(t, end(3, int(again[1])), nil, api.ErrState)
			o.is(t, peer.Talking)
			o.goOn(t, talk[1:])
			o.is(t, peer.Accepted)
		}
	})
}

// Of a Nak the method knows nothing; but the Id that ends the talk is that of the last Request.
func TestNaks(t *testing.T) {
	eachPlace(t, house.Paths([2]int{4000, 4000})[:1], func(t *testing.T, c peer.Config, talk [][]byte, at int) {
		for _, kind := range []int{2, 3, 4, 12, 14, 128, 255} {
			o := reached(t, c, talk, at)
			o.takeAs(t, packet(1, 99, kind, 1, 2, 3), packet(2, 99, 3, 13), api.OK)
			o.is(t, peer.Talking)
			if at < len(talk)-1 {
				o.goOn(t, talk[at:])
				o.is(t, peer.Accepted)
				continue
			}
			o.takeAs(t, talk[at], nil, api.ErrState)
			o.takeAs(t, end(4, 99), nil, api.ErrState)
			o.takeAs(t, end(3, 99), nil, api.OK)
			o.is(t, peer.Accepted)
		}
	})
}

// Success and Failure at each place, by each Id.
func TestEnds(t *testing.T) {
	eachPlace(t, house.Paths([2]int{4000, 4000}), func(t *testing.T, c peer.Config, talk [][]byte, at int) {
		done := at == len(talk)-1
		o := reached(t, c, talk, at)
		for id := range 256 {
			if at > 0 && id == int(lastOf(talk, at)[1]) {
				continue
			}
			o.takeAs(t, end(3, id), nil, api.ErrState)
			o.takeAs(t, end(4, id), nil, api.ErrState)
		}
		if at == 0 {
			o.is(t, peer.Idle)
			return
		}
		id := int(lastOf(talk, at)[1])
		if done {
			o.takeAs(t, end(4, id), nil, api.ErrState)
			o.takeAs(t, end(3, id), nil, api.OK)
			o.is(t, peer.Accepted)
			return
		}
		o.takeAs(t, end(3, id), nil, api.ErrState)
		o.is(t, peer.Talking)
		o.takeAs(t, end(4, id), nil, api.OK)
		o.is(t, peer.Failed)
	})
}

// One whose method is done is asked on: the method's error is its end.
func TestAskedBehindTheEnd(t *testing.T) {
	eachPlace(t, house.Paths([2]int{4000, 4000})[:1], func(t *testing.T, c peer.Config, talk [][]byte, at int) {
		if at < len(talk)-1 {
			return
		}
		for _, data := range [][]byte{nil, {0x20}, {0}, {0, 21, 3, 3, 0, 2, 2, 40}} {
			o := reached(t, c, talk, at)
			o.takeAs(t, packet(1, 99, 13, data...), nil, api.ErrState)
			o.is(t, peer.Failed)
			o.takeAs(t, talk[at], nil, api.ErrState)
		}
	})
}

// Ticks: one that waits too long is Lost; each packet that is taken lets it wait anew.
func TestTicks(t *testing.T) {
	eachPlace(t, house.Paths([2]int{4000, 4000})[:2], func(t *testing.T, c peer.Config, talk [][]byte, at int) {
		for _, wait := range []int{1, 2, 7, 1000} {
			c.Wait = wait
			o := reached(t, c, talk, at)
			if at == 0 {
				// Who is Idle waits for nothing.
				o.tick(t, 2*wait+1)
				o.is(t, peer.Idle)
				o.goOn(t, talk[:1])
				o.tick(t, wait-1)
				o.is(t, peer.Talking)
				continue
			}
			o.tick(t, wait-1)
			o.is(t, peer.Talking)
			o.takeAs(t, end(3, 200), nil, api.ErrState)
			o.tick(t, 1)
			o.is(t, peer.Lost)
			isOver(t, o, talk)
			// Each that is taken counts: one that comes again, a Nak, and the next one.
			o = reached(t, c, talk, at)
			for _, b := range [][]byte{talk[at-1], packet(1, 99, 4), packet(1, 99, 4)} {
				o.tick(t, wait-1)
				o.take(t, b)
			}
			o.tick(t, wait-1)
			o.is(t, peer.Talking)
			o.tick(t, 1)
			o.is(t, peer.Lost)
			o = reached(t, c, talk, at)
			o.tick(t, wait-1)
			o.goOn(t, talk[at:at+1])
			o.tick(t, wait-1)
			if o.p.State() == peer.Lost {
				t.Error("Lost too early")
			}
		}
	})
}

// Anything, in any order.
func TestAnyPackets(t *testing.T) {
	var ends [peer.Lost + 1]atomic.Int32
	t.Run("all", func(t *testing.T) {
		for seed := range 60 {
			t.Run(strconv.Itoa(seed), func(t *testing.T) {
				t.Parallel()
				ends[walk(t, rand.New(rand.NewSource(int64(seed))))].Add(1)
			})
		}
	})
	for state := peer.Accepted; state <= peer.Lost; state++ {
		if ends[state].Load() == 0 {
			t.Errorf("no walk ends at state %d", state)
		}
	}
}

// walk goes through a talk with much beside it; how the peer stands then.
func walk(t *testing.T, r *rand.Rand) peer.State {
	t.Helper()
	p := house.Paths([2]int{4000, 4000}, [2]int{500, 900})[r.Intn(8)]
	c, talk := configOn(t, p), talkOn(t, p, r.Intn(256))
	c.Wait = 1 + r.Intn(4)
	o := newBoth(t, c)
	for at, n := 0, 0; n < 150 && o.p.State() < peer.Accepted; n++ {
		if at = min(at, len(talk)-1); r.Intn(3) > 0 {
			if _, e := o.take(t, talk[at]); e == api.OK {
				at++
			}
			continue
		}
		last := lastOf(talk, at)
		switch list := packetsBehind(last); r.Intn(12) {
		case 0:
			o.tick(t, 1)
		case 1:
			o.take(t, talk[0])
			at = 1
		case 2:
			o.take(t, talk[r.Intn(len(talk))])
		case 3:
			list = tlsPackets(last)
			o.take(t, list[r.Intn(len(list))])
		default:
			o.take(t, list[r.Intn(len(list))])
		}
	}
	return o.p.State()
}
