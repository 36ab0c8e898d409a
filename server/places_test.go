package server_test

import (
	"bytes"
	"maps"
	"math/rand"
	"slices"
	"strconv"
	"testing"

	"tollgate/api"
	"tollgate/house"
	"tollgate/radius"
	"tollgate/sample"
)

// eachPlace lets f look at each place of each path, where a server waits for the Ask at.
func eachPlace(t *testing.T, list []house.Path, f func(t *testing.T, p house.Path, asks [][]byte, at int)) {
	for _, p := range list {
		asks := asksOn(t, p)
		for at := range asks {
			t.Run(p.String()+", Ask "+strconv.Itoa(at), func(t *testing.T) {
				t.Parallel()
				f(t, p, asks, at)
			})
		}
	}
}

func (o *both) goThrough(t *testing.T, asks [][]byte) {
	t.Helper()
	for _, b := range asks {
		o.takeAs(t, b, api.OK)
	}
	if len(o.s.Grants()) == 0 {
		t.Error("nobody is let in")
	}
}

// wrongAsks are refused, whatever was asked ahead of right, which is the next Ask of a talk that began with the number 1.
func wrongAsks(t *testing.T, right []byte) map[string]api.Errno {
	t.Helper()
	response := responseIn(t, right)
	id := int(response[1])
	all := map[string]api.Errno{"": api.ErrForm, "\x01": api.ErrForm, string(right[:len(right)-1]): api.ErrForm, string(right) + "\x00": api.ErrForm}
	add := func(want api.Errno, packet []byte, attrs ...radius.Attr) {
		all[string(ask(t, 9, with(packet, attrs...)...))] = want
	}
	foreign, _ := radius.Seal(radius.Packet{Code: radius.Ask, Attrs: radius.Split(packet(2, 1, 1))}, []byte("another"))
	bare, _ := radius.Write(radius.Packet{Code: radius.Ask, Attrs: radius.Split(packet(2, 1, 1))})
	answer, _ := radius.Reply(radius.Packet{Code: radius.Challenge, Attrs: radius.Split(packet(2, 1, 1))}, [16]byte{}, []byte(secret))
	all[string(foreign)], all[string(bare)], all[string(answer)] = api.ErrMac, api.ErrMac, api.ErrState
	for _, attrs := range [][]radius.Attr{nil, {state(numbered(1)...)}, {state(numbered(0)...)}} {
		// What is wrong with the packet is told ahead of the State.
		for _, b := range [][]byte{nil, {2}, {2, 7, 0}, {2, 7, 0, 9, 1}} {
			add(api.ErrTail, b, attrs...)
		}
		for _, b := range [][]byte{{2, 7, 0, 4}, {2, 7, 0, 5, 0}, {2, 7, 0, 5, 1, 0}, {7, 7, 0, 4}, packet(1, id, 1), packet(1, id, 13, 0), end(3, id), end(4, id)} {
			add(api.ErrForm, b, attrs...)
		}
	}
	for _, kind := range []int{2, 3, 4, 13, 255} {
		add(api.ErrState, packet(2, id, kind, 1))
	}
	for _, value := range [][]byte{nil, {1}, numbered(0), numbered(2), numbered(257), numbered(-1), numbered(1)[1:], numbered(1)[:7], append(numbered(1), 0), append([]byte{0}, numbered(1)...), sample.Filled(253, 1), {1, 0, 0, 0, 0, 0, 0, 0}, {0, 0, 0, 1, 0, 0, 0, 1}} {
		add(api.ErrMiss, response, state(value...))
		// The first one counts.
		add(api.ErrMiss, response, state(value...), state(numbered(1)...))
	}
	return all
}

// What is refused changes nothing: all of it comes, and then the rest of the talk.
func TestWhatIsRefusedChangesNothing(t *testing.T) {
	eachPlace(t, house.Paths([2]int{3800, 4000}, [2]int{300, 500}), func(t *testing.T, p house.Path, asks [][]byte, at int) {
		o := reached(t, p, asks, at)
		for b, want := range wrongAsks(t, asks[at]) {
			o.takeAs(t, []byte(b), want)
		}
		if response := responseIn(t, asks[at]); at > 0 {
			for id := range 256 {
				if id != int(response[1]) {
					o.takeAs(t, ask(t, 5000+id, with(packet(2, id, 13, 0), state(numbered(1)...))...), api.ErrState)
					o.takeAs(t, ask(t, 5000+id, with(packet(2, id, 1), state(numbered(1)...))...), api.ErrState)
				}
			}
		}
		o.counts(t, min(at, 1), min(at, 4))
		o.goThrough(t, asks[at:])
	})
}

// Each bit of an Ask counts.
func TestChangedAsks(t *testing.T) {
	t.Parallel()
	asks := asksOn(t, big())
	for at, right := range asks[:2] {
		o := reached(t, big(), asks, at)
		for i := range right {
			b := bytes.Clone(right)
			b[i] ^= 1 << (i % 8)
			if _, e := o.take(t, b); e == api.OK {
				t.Fatalf("Ask %d: byte %d is changed", at, i)
			}
		}
		o.counts(t, at, at)
	}
}

// Behind the first State others don't count, nor do attributes of other kinds, wherever they stand.
func TestOtherAttributes(t *testing.T) {
	t.Parallel()
	asks := asksOn(t, big())
	o := reached(t, big(), asks, 1)
	response := responseIn(t, asks[1])
	attrs := slices.Concat([]radius.Attr{{Kind: radius.User, Value: []byte("bob")}}, radius.Split(response[:20]),
		[]radius.Attr{{Kind: radius.Eap}, state(numbered(1)...), {Kind: radius.Vendor, Value: []byte{1}}, state(numbered(7)...)}, radius.Split(response[20:]))
	o.takeAs(t, ask(t, 5, attrs...), api.OK)
	o.goThrough(t, asks[2:])
}

// A Response that isn't Tls, and one that the method refuses, end the talk: by a Reject, that is kept as well.
func TestTalksThatEnd(t *testing.T) {
	eachPlace(t, house.Paths([2]int{3800, 4000}, [2]int{400, 600}), func(t *testing.T, p house.Path, asks [][]byte, at int) {
		if at == 0 {
			return
		}
		id := int(responseIn(t, asks[at])[1])
		var wrong [][]byte
		for _, kind := range []int{1, 2, 3, 4, 12, 14, 255} {
			wrong = append(wrong, packet(2, id, kind), packet(2, id, kind, 13))
		}
		// What would be right as Tls is nothing in another type.
		for _, kind := range []int{1, 3, 12, 14, 25} {
			wrong = append(wrong, packet(2, id, kind, responseIn(t, asks[at])[5:]...))
		}
		for _, data := range [][]byte{nil, {0x20}, {0x80}, {0, 0}, {0, 21, 3, 3, 0, 2, 2, 40}, {0, 22, 3, 3, 0, 0}, sample.Filled(300, 1), {0x60, 1, 2}} {
			wrong = append(wrong, packet(2, id, 13, data...))
		}
		for _, b := range wrong {
			o := reached(t, p, asks, at)
			asked := otherwise(t, asks[at], b)
			said := o.takeAs(t, asked, api.OK)
			answer, e := radius.Opened(said, [16]byte(asked[4:20]), []byte(secret))
			if e != api.OK || answer.Code != radius.Reject || !bytes.Equal(radius.Join(answer.Attrs), end(4, id)) || len(answer.Attrs) != 1 {
				t.Errorf("%.20x: %v, error %d", b, answer, e)
			}
			o.counts(t, 0, min(at+1, 4))
			if again := o.takeAs(t, asked, api.OK); !bytes.Equal(again, said) {
				t.Errorf("%.20x: another answer", b)
			}
			o.takeAs(t, asks[at], api.ErrMiss)
			if len(o.s.Grants()) > 0 {
				t.Error("somebody is let in")
			}
		}
	})
}

// What was said behind it is kept: each Ask, as long as it is among the last ones, is answered as it was.
func TestKept(t *testing.T) {
	p := house.Path{Sizes: [2]int{200, 300}}
	asks := asksOn(t, p)
	for _, most := range []int{1, 2, 3, len(asks) - 1, len(asks), 100} {
		t.Run(strconv.Itoa(most), func(t *testing.T) {
			t.Parallel()
			c := configOn(t, p)
			c.Answers, c.Sessions = most, 100
			o := newBoth(t, c)
			var said [][]byte
			for at, b := range asks {
				said = append(said, bytes.Clone(o.takeAs(t, b, api.OK)))
				o.counts(t, map[bool]int{true: 0, false: 1}[at == len(asks)-1], min(at+1, most))
				// The eldest stays the eldest, however often it is asked for.
				for range 2 {
					for i := max(0, at+1-most); i <= at; i++ {
						if again := o.takeAs(t, asks[i], api.OK); !bytes.Equal(again, said[i]) {
							t.Errorf("Ask %d: another answer to Ask %d", at, i)
						}
					}
				}
				for i := 1; i <= at-most; i++ {
					if _, e := o.take(t, asks[i]); e != api.ErrState && e != api.ErrMiss {
						t.Errorf("Ask %d: Ask %d is still known: error %d", at, i, e)
					}
				}
			}
			if len(o.s.Grants()) != 1 {
				t.Errorf("%d are let in", len(o.s.Grants()))
			}
			// Who begins by an Ask that is forgotten begins anew.
			if most < len(asks) {
				o.takeAs(t, asks[0], api.OK)
				o.counts(t, 1, most)
			}
		})
	}
}

// Ticks: a talk that nobody says anything to ends; each Response that is taken lets it wait anew.
func TestTicks(t *testing.T) {
	eachPlace(t, house.Paths([2]int{3800, 4000})[:2], func(t *testing.T, p house.Path, asks [][]byte, at int) {
		for _, life := range []int{1, 2, 7, 1000} {
			c := configOn(t, p)
			c.Life = life
			o := newBoth(t, c)
			for i, b := range asks[:at] {
				if i > 0 {
					o.tick(t, life-1)
				}
				o.takeAs(t, b, api.OK)
			}
			if at == 0 {
				o.tick(t, 5)
				continue
			}
			o.tick(t, life-1)
			// What is answered again, and what is refused, is nothing that the talk takes.
			o.takeAs(t, asks[at-1], api.OK)
			o.takeAs(t, ask(t, 1, with(packet(2, 200, 13, 0), state(numbered(1)...))...), api.ErrState)
			o.counts(t, 1, min(at, 4))
			o.tick(t, 1)
			o.counts(t, 0, min(at, 4))
			o.takeAs(t, asks[at], api.ErrMiss)
			o.takeAs(t, asks[at-1], api.OK)
			o.counts(t, 0, min(at, 4))
		}
	})
}

// Talks end each in its own time.
func TestTicksOfMany(t *testing.T) {
	t.Parallel()
	c := configOn(t, big())
	c.Sessions, c.Life = 10, 4
	o := newBoth(t, c)
	for i := range 8 {
		o.takeAs(t, ask(t, i, with(packet(2, i, 1))...), api.OK)
		o.counts(t, min(i+1, 4), min(i+1, 4))
		if i < 7 {
			o.tick(t, 1)
			o.counts(t, min(i+1, 3), min(i+1, 4))
		}
	}
	// The talks 5 to 8 have waited 3, 2, 1 and no ticks; the second of them is told a piece.
	o.takeAs(t, ask(t, 99, with(packet(2, 6, 13, 0xC0, 0, 0, 0, 9, 1), state(numbered(6)...))...), api.OK)
	for _, talks := range []int{3, 3, 2, 0} {
		o.tick(t, 1)
		o.counts(t, talks, 4)
	}
}

// Some guests, and much beside them.
func TestAnything(t *testing.T) {
	granted := make([]int, 24)
	t.Run("all", func(t *testing.T) {
		for seed := range granted {
			t.Run(strconv.Itoa(seed), func(t *testing.T) {
				t.Parallel()
				granted[seed] = walk(t, rand.New(rand.NewSource(int64(seed))))
			})
		}
	})
	if some := slices.Max(granted); some < 3 {
		t.Errorf("%d are let in at most", some)
	}
}

// walk lets guests speak in any order; how many are let in.
func walk(t *testing.T, r *rand.Rand) int {
	t.Helper()
	p := house.Paths([2]int{3800, 4000}, [2]int{500, 700})[2*r.Intn(4)]
	c := configOn(t, p)
	c.Sessions, c.Answers, c.Life = 1+r.Intn(4), 1+r.Intn(6), 3+r.Intn(30)
	o := newBoth(t, c)
	var guests []*guest
	var asks [][]byte
	for i := range 5 {
		guests = append(guests, guestOn(t, p, 1000*i))
	}
	for n := range 120 {
		i := r.Intn(len(guests))
		g := guests[i]
		switch r.Intn(14) {
		case 0:
			o.tick(t, 1)
		case 1:
			guests[i] = guestOn(t, p, 10000+100*n)
		case 2, 3:
			if len(asks) > 0 {
				o.take(t, asks[r.Intn(len(asks))])
			}
		case 4:
			wrong := slices.Sorted(maps.Keys(wrongAsks(t, ask(t, 1, with(g.next, g.known...)...))))
			o.take(t, []byte(wrong[r.Intn(len(wrong))]))
		case 5:
			o.take(t, ask(t, n, with(packet(2, r.Intn(256), 1+12*r.Intn(2), make([]byte, r.Intn(5))...), state(numbered(r.Intn(9))...))...))
		default:
			asked := g.ask(t)
			asks = append(asks, asked)
			if said, e := o.take(t, asked); e != api.OK || g.hear(t, asked, said) != 1 {
				guests[i] = guestOn(t, p, 10000+100*n)
			}
		}
	}
	return len(o.s.Grants())
}
