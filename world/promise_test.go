package world_test

import (
	"fmt"
	"math/rand"
	"strings"
	"testing"

	"tollgate/api"
	"tollgate/house"
	"tollgate/peer"
	"tollgate/port"
	"tollgate/world"
)

// When nothing happens but what is said, all is told: the gate opens, and all have the same keys.
func TestCalmWorlds(t *testing.T) {
	for _, p := range house.Paths([2]int{4000, 4000}, [2]int{16, 16}, [2]int{16, 4000}, [2]int{4000, 16}, [2]int{300, 200}) {
		t.Run(p.String(), func(t *testing.T) {
			t.Parallel()
			for _, name := range []string{"", "b", strings.Repeat("\xFF", 64)} {
				c := home.On(t, p)
				c.Peer.Name, c.Port.Tries, c.Port.Wait = name, 1, 1
				c.Server.Sessions, c.Server.Answers, c.Server.Life, c.Peer.Wait = 1, 1, 1, 1
				o := newBoth(t, c)
				for n := range 3 {
					o.do(t, start())
					o.calm(t, 1<<20)
					o.areIn(t, n+1)
					o.hold(t, 0, 0, 0, 0)
					o.again(t, c.Peer)
				}
			}
		})
	}
}

// onItsWay is the bag of the one message that is on its way; below 0: there is none.
func (o *both) onItsWay(t *testing.T) int {
	t.Helper()
	l := o.w.Look()
	bag := -1
	for i, n := range l.Bags {
		if n > 0 {
			if bag >= 0 || n > 1 {
				t.Fatalf("the bags hold %v", l.Bags)
			}
			bag = i
		}
	}
	return bag
}

// Each message is lost fewer times than it is said: the gate opens, and the peer is in, if the last word isn't lost.
func TestLossesFewerThanTries(t *testing.T) {
	for _, p := range house.Paths([2]int{3800, 4000}, [2]int{200, 300}) {
		for tries := 1; tries <= api.MaxTries; tries++ {
			for seed := range 4 {
				t.Run(fmt.Sprint(p, ", ", tries, " times, ", seed), func(t *testing.T) {
					t.Parallel()
					c := home.On(t, p)
					c.Port.Tries, c.Port.Wait = tries, 1+seed
					o, r := newBoth(t, c), rand.New(rand.NewSource(int64(seed)))
					o.do(t, start())
					lost := o.loseSome(t, r, tries-1, seed == 0)
					if tries > 1 && lost < 5 {
						t.Errorf("%d are lost", lost)
					}
					o.calm(t, 1)
					o.areIn(t, 1)
				})
			}
		}
	}
}

// loseSome loses messages till the gate opens, of those that belong to one thing that it says so many at most: all
// that it may, or some by chance. How many are lost.
func (o *both) loseSome(t *testing.T, r *rand.Rand, most int, all bool) int {
	t.Helper()
	sum, lost := 0, 0
	for n := 0; o.w.Look().Port != port.Open; n++ {
		if n > 20000 {
			t.Fatalf("it doesn't open: %v", o.w.Look())
		}
		bag := o.onItsWay(t)
		switch {
		case bag < 0:
			o.doAs(t, tick(), api.OK)
		case lost < most && (all || r.Intn(3) > 0):
			o.doAs(t, drop(bag, 0), api.OK)
			sum++
			lost++
		default:
			o.doAs(t, deliver(bag, 0), api.OK)
			if bag == world.FromPeer || bag == world.FromServ {
				lost = 0
			}
		}
	}
	return sum
}

// If all is lost, from any place on, the gate comes to be lost, when it has said all as often as it may.
func TestAllLost(t *testing.T) {
	for _, p := range house.Paths([2]int{3800, 4000})[:3] {
		for tries := 1; tries <= api.MaxTries; tries++ {
			for _, wait := range []int{1, 3} {
				t.Run(fmt.Sprint(p, ", ", tries, " times, ", wait, " ticks"), func(t *testing.T) {
					t.Parallel()
					c := home.On(t, p)
					c.Port.Tries, c.Port.Wait = tries, wait
					for from := 0; loseAllFrom(t, c, from); from++ {
					}
				})
			}
		}
	}
}

// loseAllFrom loses all behind so many messages; whether the gate wasn't open ahead of that.
func loseAllFrom(t *testing.T, c world.Config, from int) bool {
	t.Helper()
	o := newBoth(t, c)
	o.do(t, start())
	o.calm(t, from)
	if o.w.Look().Port == port.Open {
		return false
	}
	for n := 1; n <= c.Port.Tries*c.Port.Wait; n++ {
		if s := o.w.Look().Port; s == port.Lost {
			t.Errorf("behind %d messages: lost behind %d ticks", from, n-1)
		}
		for bag := o.onItsWay(t); bag >= 0; bag = o.onItsWay(t) {
			o.doAs(t, drop(bag, 0), api.OK)
		}
		o.doAs(t, tick(), api.OK)
	}
	o.hold(t, 0, 0, 0, 0)
	if s := o.w.Look().Port; s != port.Lost {
		t.Errorf("behind %d messages: it is %d", from, s)
	}
	if _, ok := o.w.PortKeys(); ok || len(o.w.Grants()) > 1 {
		t.Errorf("behind %d messages: keys %v", from, ok)
	}
	// What comes then isn't heard any more; another start is.
	o.do(t, inject(world.FromPeer, 2, 0, 0, 5, 1))
	o.doAs(t, deliver(world.FromPeer, 0), api.ErrState)
	o.again(t, c.Peer)
	o.doAs(t, start(), api.OK)
	o.calm(t, 1000)
	o.stands(t, peer.Accepted, port.Open)
	return true
}
