package method_test

import (
	"bytes"
	"math/rand"
	"slices"
	"testing"

	"tollgate/api"
	"tollgate/house"
	"tollgate/sample"
)

// eachPlace lets f look at each place of each path, where an end waits for the packet at.
func eachPlace(t *testing.T, list []house.Path, f func(t *testing.T, p house.Path, server bool, talk [][]byte, at int)) {
	for _, p := range list {
		t.Run(p.String(), func(t *testing.T) {
			t.Parallel()
			talk := talkOf(t, p)
			for at := range talk {
				f(t, p, at%2 == 1, talk, at)
			}
		})
	}
}

func counted(flags byte, n int, held ...byte) []byte {
	return slices.Concat([]byte{flags, byte(n >> 24), byte(n >> 16), byte(n >> 8), byte(n)}, held)
}

// wrongPackets are such that may be wrong anywhere.
func wrongPackets() [][]byte {
	alert := []byte{21, 3, 3, 0, 2, 2, 40}
	return [][]byte{
		nil, {}, start, ack, {0x40}, {0x80}, {0x80, 0, 0, 0}, {0x01}, {0x60}, {0x20, 0}, {0, 0},
		counted(0x80, 0), counted(0xC0, 0), counted(0xC0, 1), counted(0x80, 1), counted(0x80, most+1), counted(0xC0, most+1, 1), counted(0xC0, most, 1), counted(0xA0, 0),
		{0, 22}, {0, 22, 3, 3, 0, 0}, {0, 22, 3, 3, 0, 4, 8, 0, 0, 0}, slices.Concat([]byte{0}, alert), counted(0x80, len(alert), alert...), {0, 23, 3, 3, 0, 1, 0}, {0, 23, 3, 3, 0, 0},
		slices.Concat([]byte{0}, sample.Filled(300, 1)), slices.Concat([]byte{0, 23, 3, 3, 0, 40}, make([]byte, 40)),
		make([]byte, most+1), make([]byte, most+2), counted(0x80, 7, 21, 3, 3, 0, 2, 2), counted(0x80, 6, 21, 3, 3, 0, 2, 2, 40),
	}
}

// Packets of each kind at each place; and what comes behind one.
func TestWrongPackets(t *testing.T) {
	wrong := wrongPackets()
	eachPlace(t, house.Paths([2]int{4000, 4000}, [2]int{400, 600}), func(t *testing.T, p house.Path, server bool, talk [][]byte, at int) {
		for _, b := range wrong {
			o := reached(t, p, server, talk, at)
			o.step(t, b)
			o.step(t, talk[at])
			o.step(t, ack)
			o.step(t, b)
		}
	})
}

// The right packet changed: each of its first bytes, its last one, and some between, a byte fewer, and a byte more.
func TestChangedPackets(t *testing.T) {
	eachPlace(t, house.Paths([2]int{500, 700}), func(t *testing.T, p house.Path, server bool, talk [][]byte, at int) {
		right := talk[at]
		r := rand.New(rand.NewSource(int64(at)))
		for i := range right {
			if i > 6 && i < len(right)-1 && r.Intn(80) > 0 {
				continue
			}
			b := bytes.Clone(right)
			b[i] ^= 1 << r.Intn(8)
			o := reached(t, p, server, talk, at)
			o.step(t, b)
			o.step(t, right)
		}
		for _, b := range [][]byte{right[:len(right)-1], slices.Concat(right, []byte{0}), right[:1], slices.Concat(right, right)} {
			o := reached(t, p, server, talk, at)
			o.step(t, b)
			o.step(t, right)
		}
	})
}

// Packets of the same talk that come at the wrong time.
func TestPacketsAstray(t *testing.T) {
	eachPlace(t, house.Paths([2]int{600, 700})[:2], func(t *testing.T, p house.Path, server bool, talk [][]byte, at int) {
		for other := range talk {
			o := reached(t, p, server, talk, at)
			o.step(t, talk[other])
			for next := at; next < len(talk); next += 2 {
				o.step(t, talk[next])
			}
		}
	})
}

// A flight in pieces that the other end didn't make: by L alone, of one byte each, with an end that holds nothing.
func TestPiecesOfOthers(t *testing.T) {
	eachPlace(t, house.Paths([2]int{4000, 4000}), func(t *testing.T, p house.Path, server bool, talk [][]byte, at int) {
		if at == 0 {
			return
		}
		flight := talk[at][1:]
		var next []byte
		if at+1 < len(talk) {
			next = talk[at+1]
		}
		o := reached(t, p, server, talk, at)
		o.stepAs(t, counted(0x80, len(flight), flight...), next, api.OK)
		if len(flight) == 0 {
			return
		}
		o = reached(t, p, server, talk, at)
		o.stepAs(t, counted(0xC0, len(flight), flight[0]), ack, api.OK)
		for _, x := range flight[1:] {
			o.stepAs(t, []byte{0x40, x}, ack, api.OK)
		}
		o.stepAs(t, ack, next, api.OK)
	})
}

// Where pieces are left, just an Ack asks for more.
func TestJustAnAckAsksForMore(t *testing.T) {
	t.Parallel()
	wrong := [][]byte{nil, start, {0x40}, {0x80}, counted(0x80, 0), {0, 0}, {1}, {0, 21, 3, 3, 0, 2, 2, 40}, counted(0xC0, 5, 1)}
	p := house.Path{Sizes: [2]int{90, 90}}
	talk := talkOf(t, p)
	places := [2]int{}
	for at := range talk {
		if len(reached(t, p, at%2 == 1, talk, at).w.left) == 0 {
			continue
		}
		places[at%2]++
		for _, b := range wrong {
			o := reached(t, p, at%2 == 1, talk, at)
			o.stepAs(t, b, nil, api.ErrForm)
			o.stepAs(t, ack, nil, api.ErrState)
		}
	}
	if places[0] < 3 || places[1] < 3 {
		t.Errorf("at %v places pieces are left", places)
	}
}

// A peer that hasn't begun takes a Start, and nothing else.
func TestJustAStartBegins(t *testing.T) {
	t.Parallel()
	a, b := home.Ends(t)
	for _, packet := range append(wrongPackets(), []byte{0x20, 0x20}, []byte{0x21}, []byte{0x30}, []byte{0xA0}) {
		if bytes.Equal(packet, start) {
			continue
		}
		o := newBoth(t, a, 100, false)
		o.stepAs(t, packet, nil, api.ErrForm)
		o.stepAs(t, start, nil, api.ErrState)
	}
	// A server is never told to start.
	o := newBoth(t, b, 100, true)
	o.stepAs(t, start, nil, api.ErrForm)
}

// Dial's error is the Step's.
func TestPeersThatCanNotDial(t *testing.T) {
	t.Parallel()
	for _, size := range []int{16, 4000} {
		a, _ := home.Ends(t)
		a.Saved.Ticket = make([]byte, 1<<16)
		o := newBoth(t, a, size, false)
		o.stepAs(t, start, nil, api.ErrForm)
		if !o.m.Failed() {
			t.Error("a peer that can't dial hasn't failed")
		}
		o.stepAs(t, start, nil, api.ErrState)
	}
}

// As many bytes wait as a flight may have, and never more.
func TestWaits(t *testing.T) {
	t.Parallel()
	p := house.Path{Sizes: [2]int{1000, 1000}}
	talk := talkOf(t, p)
	for _, at := range []int{1, 2} {
		if at == 2 && len(talk[1]) != len(piecesOf(talk[1][1:], 1000)[0]) {
			t.Fatal("the Client is in pieces")
		}
		o := reached(t, p, at == 1, talk, at)
		o.stepAs(t, counted(0xC0, most, sample.Filled(1000, 1)...), ack, api.OK)
		for held := 1000; held < most; held = o.m.Waits() {
			o.stepAs(t, slices.Concat([]byte{0x40}, sample.Filled(min(995, most-held), held)), ack, api.OK)
		}
		if o.m.Waits() != most {
			t.Errorf("%d wait", o.m.Waits())
		}
		o.stepAs(t, []byte{0x40, 1}, nil, api.ErrForm)
		if o.m.Waits() != 0 || !o.m.Failed() {
			t.Errorf("%d wait behind an error", o.m.Waits())
		}
		o = reached(t, p, at == 1, talk, at)
		o.stepAs(t, counted(0xC0, most+1, 1), nil, api.ErrBig)
		o = reached(t, p, at == 1, talk, at)
		o.stepAs(t, make([]byte, most+2), nil, api.ErrBig)
		// Such a flight is one of which layer 15 knows nothing.
		o = reached(t, p, at == 1, talk, at)
		if _, e := o.step(t, make([]byte, most+1)); e == api.OK || e == api.ErrBig {
			t.Errorf("a flight of noughts: error %d", e)
		}
	}
}

func TestAnyPackets(t *testing.T) {
	eachPlace(t, house.Paths([2]int{900, 900}), func(t *testing.T, p house.Path, server bool, talk [][]byte, at int) {
		r := rand.New(rand.NewSource(int64(at) + 7))
		for i := range 15 {
			o := reached(t, p, server, talk, at)
			for n := 0; n < 6 && !o.w.failed; n++ {
				b := sample.Filled(r.Intn(40), i)
				if len(b) > 0 {
					b[0] &= 0xE0
				}
				o.step(t, b)
			}
		}
	})
}
