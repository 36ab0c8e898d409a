package server_test

import (
	"bytes"
	"fmt"
	"math"
	"testing"

	"tollgate/api"
	"tollgate/house"
	"tollgate/method"
	"tollgate/radius"
	"tollgate/sample"
	"tollgate/server"
)

func TestExample(t *testing.T) {
	o := newBoth(t, configOn(t, big()))
	asked := ask(t, 3, with(packet(2, 0, 1, 'b', 'o', 'b'))...)
	said := o.takeAs(t, asked, api.OK)
	p, e := radius.Opened(said, [16]byte(asked[4:20]), []byte(secret))
	if e != api.OK || p.Code != radius.Challenge || p.Id != 3 || len(p.Attrs) != 2 || p.Attrs[0].Kind != radius.State || p.Attrs[1].Kind != radius.Eap {
		t.Fatalf("%v, error %d", p, e)
	}
	if fmt.Sprintf("%x %x", p.Attrs[0].Value, p.Attrs[1].Value) != "0000000000000001 010100060d20" {
		t.Errorf("State %x, Eap %x", p.Attrs[0].Value, p.Attrs[1].Value)
	}
	o.counts(t, 1, 1)
}

func TestNew(t *testing.T) {
	right := configOn(t, big())
	isMade := func(c server.Config, want api.Errno) {
		t.Helper()
		s, e := server.New(c)
		if e != want || (s == nil) != (want != api.OK) {
			t.Errorf("a secret of %d bytes, pieces of %d, %d talks, %d answers, life %d: error %d, not %d", len(c.Secret), c.Size, c.Sessions, c.Answers, c.Life, e, want)
		}
	}
	// hold lets one part of a Config be each of these.
	hold := func(most int, set func(*server.Config, int)) {
		t.Helper()
		for _, n := range []int{1, 2, 50, most - 1, most} {
			c := right
			set(&c, n)
			isMade(c, api.OK)
		}
		for _, n := range []int{math.MinInt, -most, -1, 0, most + 1, 1<<16 + 1, 1<<32 + 1, math.MaxInt} {
			c := right
			set(&c, n)
			isMade(c, api.ErrArg)
		}
	}
	hold(100, func(c *server.Config, n int) { c.Sessions = n })
	hold(100, func(c *server.Config, n int) { c.Answers = n })
	hold(1000, func(c *server.Config, n int) { c.Life = n })
	hold(100, func(c *server.Config, n int) { c.Secret = make([]byte, min(max(n, 0), 1<<16)) })
	for want, list := range map[api.Errno][]int{api.OK: {16, 17, 3999, 4000}, api.ErrArg: {math.MinInt, -16, 0, 15, 4001, 1<<32 + 16, math.MaxInt}} {
		for _, n := range list {
			c := right
			c.Size = n
			isMade(c, want)
		}
	}
	// No certificate, no roots: what is wrong with these a talk tells.
	isMade(server.Config{Secret: []byte{0}, Size: 16, Sessions: 1, Answers: 1, Life: 1}, api.OK)
}

// A talk from its beginning to its end; each Ask comes twice.
func TestTalks(t *testing.T) {
	for _, p := range house.Paths([2]int{3800, 4000}, [2]int{200, 300}, [2]int{16, 1000}, [2]int{1000, 16}) {
		t.Run(p.String(), func(t *testing.T) {
			t.Parallel()
			o, g := newBoth(t, configOn(t, p)), guestOn(t, p, 250)
			for code, n := 1, 1; code == 1; n++ {
				asked := g.ask(t)
				said := o.takeAs(t, asked, api.OK)
				if again := o.takeAs(t, asked, api.OK); !bytes.Equal(again, said) {
					t.Fatal("another answer")
				}
				if code = g.hear(t, asked, said); code == 1 {
					o.counts(t, 1, min(n, 4))
				}
			}
			o.counts(t, 0, 4)
			k, ok := g.method.Keys()
			if l := o.s.Grants(); !ok || len(l) != 1 || l[0] != (server.Grant{Talk: 1, Name: "client", Keys: k}) {
				t.Errorf("%v is let in", l)
			}
			if g.method.Resumed() != p.Resumed {
				t.Errorf("resumed: %v", g.method.Resumed())
			}
		})
	}
}

// Ids are bytes: behind 255 comes 0.
func TestIds(t *testing.T) {
	for id := range 256 {
		o, g := newBoth(t, configOn(t, big())), guestOn(t, big(), id)
		o.goOn(t, g, 1)
		if int(g.next[1]) != (id+1)%256 {
			t.Errorf("behind %d comes %d", id, g.next[1])
		}
		if id < 251 {
			continue
		}
		if code := o.goOn(t, g, 9); code != 3 {
			t.Errorf("from %d on: code %d", id, code)
		}
	}
}

// Each talk draws of its own.
func TestTalksAreApart(t *testing.T) {
	t.Parallel()
	c := configOn(t, big())
	c.Sessions = 100
	o := newBoth(t, c)
	seen := map[[64]byte]int{}
	for i := range 4 {
		g := guestOn(t, big(), 10*i)
		if code := o.goOn(t, g, 9); code != 3 {
			t.Errorf("talk %d: code %d", i, code)
		}
		k, _ := g.method.Keys()
		seen[k.Msk]++
	}
	if len(seen) != 4 {
		t.Errorf("%d keys of 4 talks", len(seen))
	}
}

// So many talks at once, and not one more; they go on side by side, in any order.
func TestSessions(t *testing.T) {
	for _, most := range []int{1, 3, 5} {
		t.Run(fmt.Sprint(most), func(t *testing.T) {
			t.Parallel()
			c := configOn(t, big())
			c.Sessions, c.Answers = most, 2
			o := newBoth(t, c)
			var guests []*guest
			for i := range most {
				g := guestOn(t, big(), 100*i)
				o.goOn(t, g, 1)
				guests = append(guests, g)
			}
			late := guestOn(t, big(), 1000)
			for range 3 {
				o.takeAs(t, late.ask(t), api.ErrFull)
			}
			// Who isn't asked who he is is told that, full or not.
			o.takeAs(t, ask(t, 1, with(packet(2, 1, 13, 0))...), api.ErrState)
			for i := range guests {
				o.goOn(t, guests[most-1-i], 2)
			}
			for i := range guests {
				if code := o.goOn(t, guests[i], 9); code != 3 {
					t.Errorf("guest %d: code %d", i, code)
				}
			}
			if code := o.goOn(t, late, 9); code != 3 {
				t.Errorf("who comes late: code %d", code)
			}
			if l := o.s.Grants(); len(l) != most+1 || l[most].Talk != most+1 {
				t.Errorf("%d are let in", len(l))
			}
			o.counts(t, 0, 2)
		})
	}
}

// Who isn't trusted gets a Reject, and nobody is let in.
func TestRejects(t *testing.T) {
	t.Parallel()
	for what, change := range map[string]func(*server.Config){
		"time":    func(c *server.Config) { c.Tls.Now = house.Until + 1 },
		"roots":   func(c *server.Config) { c.Tls.Roots = nil },
		"nothing": func(c *server.Config) {},
	} {
		c := configOn(t, big())
		change(&c)
		o, g := newBoth(t, c), guestOn(t, big(), 1)
		want := map[bool]int{true: 3, false: 4}[what == "nothing"]
		if code := o.goOn(t, g, 9); code != want || len(o.s.Grants()) != want%2 {
			t.Errorf("%s: code %d, %d are let in", what, code, len(o.s.Grants()))
		}
		o.counts(t, 0, len(o.w.asks))
		o.takeAs(t, g.ask(t), api.ErrMiss)
	}
}

// The greatest pieces there are can be sealed.
func TestGreatPieces(t *testing.T) {
	t.Parallel()
	c := configOn(t, big())
	for range 4 {
		c.Tls.Chain = append(c.Tls.Chain, sample.Filled(2048, 1))
	}
	o, g := newBoth(t, c), guestOn(t, big(), 1)
	o.goOn(t, g, 2)
	most := 0
	for range 2 {
		most = max(most, len(o.takeAs(t, g.ask(t), api.OK)))
		g.next = packet(2, int(g.next[1])+1, 13, 0)
	}
	if most != 20+2+8+4000+5+2*16+2+16 {
		t.Errorf("the greatest answer has %d bytes", most)
	}
}

// Those of the last 100 that were let in; the salt has the talk's number modulo 256.
func TestManyGrants(t *testing.T) {
	t.Parallel()
	p := big()
	p.Resumed = true
	o := newBoth(t, configOn(t, p))
	var keys []method.Keys
	var numbers []int
	for i := range 104 {
		if i == 50 {
			for range 255 {
				// Talks that end at once.
				b := ask(t, o.w.begun, with(packet(2, 1, 1))...)
				o.takeAs(t, b, api.OK)
				o.takeAs(t, ask(t, o.w.begun, with(packet(2, 2, 3, 13), state(numbered(o.w.begun)...))...), api.OK)
			}
		}
		g := guestOn(t, p, 1000*i)
		if code := o.goOn(t, g, 9); code != 3 {
			t.Fatalf("guest %d: code %d", i, code)
		}
		k, _ := g.method.Keys()
		keys, numbers = append(keys, k), append(numbers, o.w.begun)
	}
	l := o.s.Grants()
	if len(l) != 100 || numbers[103] != 359 {
		t.Fatalf("%d are let in, the last talk is %d", len(l), numbers[103])
	}
	for i, grant := range l {
		if grant != (server.Grant{Talk: numbers[i+4], Name: "client", Keys: keys[i+4]}) {
			t.Errorf("%d: talk %d, not %d, %q", i, grant.Talk, numbers[i+4], grant.Name)
		}
	}
}

func TestNoServer(t *testing.T) {
	right := ask(t, 0, with(packet(2, 0, 1))...)
	for _, s := range []*server.Server{nil, {}} {
		for _, b := range [][]byte{nil, {1}, right, make([]byte, 5000)} {
			if said, e := s.Take(b); e != api.ErrArg || len(said) > 0 {
				t.Errorf("%.20x: %x, error %d", b, said, e)
			}
		}
		s.Tick()
		if s.Talks() != 0 || s.Kept() != 0 || len(s.Grants()) != 0 {
			t.Errorf("%d talks, %d answers, %d are let in", s.Talks(), s.Kept(), len(s.Grants()))
		}
	}
}
