package method_test

import (
	"fmt"
	"testing"

	"tollgate/api"
	"tollgate/house"
	"tollgate/method"
	"tollgate/record"
)

// isDone lets a peer and a server answer each other till they are done.
func isDone(t *testing.T, p house.Path) {
	t.Helper()
	a, b := bothOn(t, p, false), bothOn(t, p, true)
	to, other := a, b
	n := 0
	for next := start; len(next) > 0; to, other = other, to {
		said, e := to.step(t, next)
		if e != api.OK || len(said) > to.w.size {
			t.Fatalf("%v: packet %d, error %d, %d bytes", p, n, e, len(said))
		}
		next = said
		n++
	}
	if !a.m.Done() || !b.m.Done() || a.m.Other() != "server" || b.m.Other() != "client" || a.m.Resumed() != p.Resumed || b.m.Resumed() != p.Resumed {
		t.Errorf("%v: done %v and %v, with %q and %q", p, a.m.Done(), b.m.Done(), a.m.Other(), b.m.Other())
	}
	k, _ := a.m.Keys()
	if l, _ := b.m.Keys(); k != l || k.Session[0] != 13 || k.Msk == k.Emsk || k.Msk == [64]byte{} {
		t.Errorf("%v: keys %x and %x", p, k, l)
	}
	isOver(t, a)
	isOver(t, b)
}

// isOver: one that is done takes nothing more, and stays as it is.
func isOver(t *testing.T, o *both) {
	t.Helper()
	for _, b := range [][]byte{nil, {}, ack, start, {0x40}, {0, 22}, {0, 21, 3, 3, 0, 2, 2, 40}, {0xC0, 0, 0, 0, 2, 1}} {
		o.stepAs(t, b, nil, api.ErrState)
	}
}

// Two ends of any sizes.
func TestTalks(t *testing.T) {
	sizes := []int{16, 17, 24, 40, 255, 1000, 4000}
	for _, a := range sizes {
		t.Run(fmt.Sprint(a), func(t *testing.T) {
			t.Parallel()
			for _, b := range sizes {
				for _, p := range house.Paths([2]int{a, b}) {
					isDone(t, p)
				}
			}
		})
	}
}

// Flights that fill their pieces just so, with a byte more, and with one fewer.
func TestTalksByEachSize(t *testing.T) {
	t.Parallel()
	long := house.Paths([2]int{4000, 4000})[0]
	for i, b := range talkOf(t, long) {
		for size := len(b) - 1; size <= len(b)+1; size++ {
			for _, parts := range []int{1, 2, 3} {
				if fits := size/parts + 2; fits >= 16 {
					p := long
					p.Sizes[(i+1)%2] = fits
					isDone(t, p)
				}
			}
		}
	}
}

// What each packet has, by the document's example.
func TestExample(t *testing.T) {
	t.Parallel()
	talk := talkOf(t, house.Path{Sizes: [2]int{4000, 4000}})
	want := []string{"", "[22]", "[22 23]", "[23]", "[23 23]", ""}
	if len(talk) != len(want) {
		t.Fatalf("%d packets", len(talk))
	}
	p := house.Path{Sizes: [2]int{4000, 4000}}
	a, b := bothOn(t, p, false), bothOn(t, p, true)
	for i, packet := range talk {
		o := a
		if i%2 == 1 {
			o = b
		}
		var next []byte
		if i+1 < len(talk) {
			next = talk[i+1]
		}
		o.stepAs(t, packet, next, api.OK)
		if i == 0 || i == len(talk)-1 {
			continue
		}
		if got := fmt.Sprint(kindsOf(t, packet[1:])); packet[0] != 0 || got != want[i] {
			t.Errorf("packet %d: flags %x, records %s", i, packet[0], got)
		}
	}
	if fmt.Sprintf("%x %x", talk[0], talk[len(talk)-1]) != "20 00" {
		t.Errorf("%x, %x", talk[0], talk[len(talk)-1])
	}
}

func kindsOf(t *testing.T, flight []byte) []int {
	t.Helper()
	var kinds []int
	for len(flight) > 0 {
		rec, rest, e := record.Cut(flight)
		if e != api.OK {
			t.Fatal("no records: error ", e)
		}
		kinds = append(kinds, int(rec[0]))
		flight = rest
	}
	return kinds
}

func TestSizes(t *testing.T) {
	t.Parallel()
	a, b := home.Ends(t)
	for _, size := range []int{-1 << 63, -4000, -1, 0, 1, 14, 15, 4001, 4002, 32768, 1 << 32, 1<<32 + 100, 1<<63 - 1} {
		if m, e := method.Peer(a, size); m != nil || e != api.ErrArg {
			t.Errorf("a peer by %d: error %d", size, e)
		}
		if m, e := method.Server(b, size); m != nil || e != api.ErrArg {
			t.Errorf("a server by %d: error %d", size, e)
		}
	}
	for _, size := range []int{16, 17, 3999, 4000} {
		newBoth(t, a, size, false).isSo(t)
		newBoth(t, b, size, true).isSo(t)
	}
}

// What an end says hangs on its own Config alone, not on when it was made.
func TestEndsAreApart(t *testing.T) {
	t.Parallel()
	p := house.Path{Sizes: [2]int{100, 300}}
	talk := talkOf(t, p)
	var ends []*both
	for i := range 4 {
		ends = append(ends, bothOn(t, p, i%2 == 1))
	}
	for i, packet := range talk {
		for k, o := range ends {
			if k%2 == i%2 {
				o.step(t, packet)
			}
		}
	}
	for i, o := range ends {
		if !o.m.Done() {
			t.Errorf("end %d isn't done", i)
		}
	}
}

func TestNoMethod(t *testing.T) {
	for _, m := range []*method.Method{nil, {}} {
		for _, b := range [][]byte{nil, {}, start, ack, {0x80}, make([]byte, most+2)} {
			if said, e := m.Step(b); e != api.ErrArg || len(said) > 0 {
				t.Errorf("%.20x: %x, error %d", b, said, e)
			}
		}
		o := &both{m: m}
		o.tellsNothing(t)
		if m.Done() || m.Failed() || m.Waits() != 0 {
			t.Errorf("done %v, failed %v, %d wait", m.Done(), m.Failed(), m.Waits())
		}
	}
}
