package world_test

import (
	"bytes"
	"math"
	"slices"
	"testing"

	"tollgate/api"
	"tollgate/house"
	"tollgate/peer"
	"tollgate/port"
	"tollgate/sample"
	"tollgate/world"
)

func TestNames(t *testing.T) {
	if !slices.Equal([]int{world.ToPeer, world.FromPeer, world.ToServer, world.FromServ, world.Bags, world.MostBag}, []int{0, 1, 2, 3, 4, 100}) {
		t.Error("a bag has another number")
	}
	if !slices.Equal([]int{world.Start, world.Deliver, world.Drop, world.Twice, world.Change, world.Inject, world.Tick}, []int{0, 1, 2, 3, 4, 5, 6}) {
		t.Error("what happens has another number")
	}
}

func TestNew(t *testing.T) {
	right := home.On(t, big())
	wrong := map[string]func(*world.Config){
		"nothing":              func(*world.Config) {},
		"the peer's size":      func(c *world.Config) { c.Peer.Size = 15 },
		"the peer's wait":      func(c *world.Config) { c.Peer.Wait = 0 },
		"the peer's name":      func(c *world.Config) { c.Peer.Name = string(make([]byte, 65)) },
		"the gate's secret":    func(c *world.Config) { c.Port.Secret = nil },
		"the gate's tries":     func(c *world.Config) { c.Port.Tries = 6 },
		"the gate's wait":      func(c *world.Config) { c.Port.Wait = 1001 },
		"the server's secret":  func(c *world.Config) { c.Server.Secret = make([]byte, 101) },
		"the server's size":    func(c *world.Config) { c.Server.Size = 4001 },
		"the server's talks":   func(c *world.Config) { c.Server.Sessions = 101 },
		"the server's answers": func(c *world.Config) { c.Server.Answers = 0 },
		"the server's life":    func(c *world.Config) { c.Server.Life = -1 },
		"all":                  func(c *world.Config) { *c = world.Config{} },
		"peer and server":      func(c *world.Config) { c.Peer, c.Server = peer.Config{}, world.Config{}.Server },
	}
	for what, change := range wrong {
		c, want := right, api.ErrArg
		if change(&c); what == "nothing" {
			want = api.OK
		}
		if w, e := world.New(c); e != want || (w == nil) != (want != api.OK) {
			t.Errorf("%s: error %d, not %d", what, e, want)
		}
	}
	// Nothing has happened yet.
	o := on(t, big())
	if l := o.w.Look(); l != (world.Look{}) {
		t.Errorf("it stands %v", l)
	}
	if _, ok := o.w.PeerKeys(); ok {
		t.Error("the peer has keys")
	}
	if _, ok := o.w.PortKeys(); ok || len(o.w.Grants()) > 0 || o.calm(t, 100) != 0 {
		t.Error("the gate has keys, or somebody is let in, or something is said")
	}
}

func TestExample(t *testing.T) {
	o := on(t, big())
	o.do(t, start())
	o.hold(t, 1, 0, 0, 0)
	o.calm(t, 100)
	o.areIn(t, 1)
	o.hold(t, 0, 0, 0, 0)
}

// numbers are far from all that may be, or have the last bits of one that may.
func numbers() []int {
	return []int{math.MinInt, math.MinInt + 1, math.MinInt + 5, -1 << 32, -1<<32 + 1, -256, -7, -2, -1, 4, 5, 100, 255, 256, 257, 1 << 32, 1<<32 + 1, math.MaxInt - 1, math.MaxInt}
}

// A step of none of the kinds is none, whatever else it has.
func TestOtherSteps(t *testing.T) {
	o := underWay(t)
	for _, what := range append(numbers(), 7, 8, 9) {
		if 0 <= what && what <= 6 {
			continue
		}
		for _, bag := range []int{-1, 0, 3, 4} {
			o.doAs(t, world.Step{What: what, Bag: bag, At: 1, By: 1, Bytes: make([]byte, 5000)}, api.ErrArg)
		}
	}
	o.calm(t, 100)
	o.areIn(t, 1)
}

// underWay is a world that has begun, with a message in each bag that may be there.
func underWay(t *testing.T) *both {
	t.Helper()
	o := on(t, big())
	o.do(t, start())
	o.calm(t, 3)
	o.hold(t, 0, 0, 0, 1)
	return o
}

// Where a bag is needed there must be one; where a message is needed there must be one.
func TestNoSuchBag(t *testing.T) {
	o := underWay(t)
	for what := world.Deliver; what <= world.Inject; what++ {
		for _, bag := range numbers() {
			if bag < 0 || bag > 3 {
				o.doAs(t, world.Step{What: what, Bag: bag, By: 1, Bytes: []byte{1}}, api.ErrMiss)
				o.doAs(t, world.Step{What: what, Bag: bag, Bytes: make([]byte, 5000)}, api.ErrMiss)
			}
		}
		for bag := world.ToPeer; bag < world.FromServ && what < world.Inject; bag++ {
			for _, at := range append(numbers(), 0) {
				o.doAs(t, world.Step{What: what, Bag: bag, At: at, By: 1, Bytes: []byte{1}}, api.ErrMiss)
			}
		}
	}
	o.hold(t, 0, 0, 0, 1)
	// A start and a tick need none.
	for _, bag := range numbers() {
		o.doAs(t, world.Step{What: world.Start, Bag: bag, At: bag, Bytes: make([]byte, 5000)}, api.ErrState)
	}
	for _, bag := range numbers() {
		o.doAs(t, world.Step{What: world.Tick, Bag: bag, At: bag, Bytes: make([]byte, 5000)}, api.OK)
	}
}

func TestStart(t *testing.T) {
	o := on(t, big())
	o.doAs(t, start(), api.OK)
	o.hold(t, 1, 0, 0, 0)
	o.doAs(t, start(), api.ErrState)
	o.hold(t, 1, 0, 0, 0)
	o.calm(t, 1)
	o.calm(t, 1)
	o.stands(t, peer.Talking, port.Waiting)
	o.doAs(t, start(), api.ErrState)
	o.calm(t, 100)
	o.areIn(t, 1)
	// Who is in is asked again: he himself takes nothing any more.
	o.doAs(t, start(), api.OK)
	o.doAs(t, deliver(world.ToPeer, 0), api.ErrState)
	o.stands(t, peer.Accepted, port.Asking)
	// Where there is no room what is said is lost.
	o = on(t, big())
	o.fill(t, world.ToPeer, 100)
	o.doAs(t, start(), api.OK)
	o.hold(t, 100, 0, 0, 0)
	o.stands(t, peer.Idle, port.Asking)
}

// fill puts messages into a bag that nobody takes, so that it holds so many.
func (o *both) fill(t *testing.T, bag, count int) {
	t.Helper()
	for n := o.w.Look().Bags[bag]; n < count; n++ {
		o.doAs(t, inject(bag, 9, byte(n)), api.OK)
	}
}

// Three messages that differ in what is wrong with them tell which of them it was.
func three(t *testing.T) *both {
	t.Helper()
	o := on(t, big())
	o.doAs(t, inject(world.ToPeer, 1), api.OK)
	o.doAs(t, inject(world.ToPeer, 5, 0, 0, 4), api.OK)
	o.doAs(t, inject(world.ToPeer, 2, 0, 0, 5, 1), api.OK)
	return o
}

// A message is that at At modulo the count, as a number without a sign.
func TestPlaces(t *testing.T) {
	wrong := []api.Errno{api.ErrTail, api.ErrForm, api.ErrState}
	for at, place := range map[int]int{
		0: 0, 1: 1, 2: 2, 3: 0, 4: 1, 5: 2, 999999: 0, 1000000: 1, 1 << 32: 1, 1<<32 + 1: 2,
		math.MaxInt: 1, math.MaxInt - 1: 0, // 2^63 - 1 leaves 1
		-1: 0, -2: 2, -3: 1, -4: 0, // 2^64 - 1 leaves 0
		math.MinInt: 2, math.MinInt + 1: 0, // 2^63 leaves 2
	} {
		rest := slices.Delete(slices.Clone(wrong), place, place+1)
		o := three(t)
		o.doAs(t, deliver(world.ToPeer, at), wrong[place])
		o.tell(t, rest...)
		o = three(t)
		o.doAs(t, drop(world.ToPeer, at), api.OK)
		o.tell(t, rest...)
		o = three(t)
		o.doAs(t, twice(world.ToPeer, at), api.OK)
		o.hold(t, 4, 0, 0, 0)
		o.tell(t, append(slices.Clone(wrong), wrong[place])...)
		// Change: the first byte of one becomes that of no packet.
		o = three(t)
		o.doAs(t, change(world.ToPeer, at, 0x80), api.OK)
		o.hold(t, 3, 0, 0, 0)
		for range 3 {
			o.do(t, deliver(world.ToPeer, 0))
		}
	}
}

// tell tells a fault, if the messages to the peer are others than such, one after the other.
func (o *both) tell(t *testing.T, want ...api.Errno) {
	t.Helper()
	for _, e := range want {
		o.doAs(t, deliver(world.ToPeer, 0), e)
	}
	o.hold(t, 0, 0, 0, 0)
}

// Deliver hands over to whom the bag leads; what he says is behind the others in the next bag.
func TestDeliver(t *testing.T) {
	o := on(t, big())
	o.doAs(t, start(), api.OK)
	for i, want := range [][]int{{0, 1, 0, 0}, {0, 0, 1, 0}, {0, 0, 0, 1}, {1, 0, 0, 0}, {0, 1, 0, 0}} {
		o.doAs(t, deliver(i%4, 0), api.OK)
		o.hold(t, want...)
	}
	// Each bag leads to another one: what fits one of them is wrong for the others.
	request := []byte{1, 0, 0, 5, 1}
	for bag, want := range []api.Errno{api.OK, api.ErrState, api.ErrForm, api.ErrState} {
		o := on(t, big())
		o.doAs(t, start(), api.OK)
		o.doAs(t, inject(bag, request...), api.OK)
		o.doAs(t, deliver(bag, -1), want)
	}
	// What is said stands behind what is there.
	o = on(t, big())
	o.doAs(t, inject(world.FromPeer, 9), api.OK)
	o.doAs(t, start(), api.OK)
	o.doAs(t, deliver(world.ToPeer, 0), api.OK)
	o.doAs(t, deliver(world.FromPeer, 0), api.ErrTail)
	o.doAs(t, deliver(world.FromPeer, 0), api.OK)
}

// An error may have an answer: the peer's alert goes its way, and the server's Reject.
func TestAlerts(t *testing.T) {
	c := home.On(t, big())
	c.Peer.Tls.Now = house.Until + 1
	o := newBoth(t, c)
	o.do(t, start())
	for o.w.Look().Peer != peer.Failed {
		if l := o.w.Look(); l.Bags == [4]int{} {
			t.Fatal("nothing is said any more")
		}
		if o.calm(t, 3); o.w.Look().Bags[world.ToPeer] > 0 {
			if l := o.do(t, deliver(world.ToPeer, 0)); l.Err != api.OK && l.Err != api.ErrTime {
				t.Fatalf("error %d", l.Err)
			}
		}
	}
	o.hold(t, 0, 1, 0, 0)
	o.calm(t, 3)
	o.stands(t, peer.Failed, port.Shut)
	o.hold(t, 1, 0, 0, 0)
	o.doAs(t, deliver(world.ToPeer, 0), api.ErrState)
}

// One of two that are the same is changed: the other one isn't.
func TestTwice(t *testing.T) {
	for _, at := range []int{0, 1} {
		o := on(t, big())
		o.do(t, start())
		o.doAs(t, twice(world.ToPeer, 0), api.OK)
		// Code 1 becomes 0 of the first one, or the Id 0 becomes 1 of the second one.
		o.doAs(t, change(world.ToPeer, at, 1), api.OK)
		if at == 0 {
			o.doAs(t, deliver(world.ToPeer, 0), api.ErrForm)
			o.calm(t, 100)
			o.areIn(t, 1)
			continue
		}
		o.doAs(t, deliver(world.ToPeer, 0), api.OK)
		o.doAs(t, deliver(world.ToPeer, 0), api.OK)
		o.doAs(t, deliver(world.FromPeer, 1), api.ErrState)
		o.doAs(t, deliver(world.FromPeer, 0), api.OK)
	}
	for n := 98; n <= 100; n++ {
		o := on(t, big())
		o.fill(t, world.FromServ, n)
		o.doAs(t, twice(world.FromServ, 5), map[bool]api.Errno{true: api.OK, false: api.ErrFull}[n < 100])
		o.hold(t, 0, 0, 0, min(n+1, 100))
	}
}

// The byte is that at At modulo its message's count, as a number without a sign.
func TestChange(t *testing.T) {
	for at, place := range map[int]int{0: 0, 1: 1, 2: 2, 3: 3, 4: 4, 5: 0, 6: 1, 9: 4, 999999: 4, -1: 0, -5: 1, math.MinInt: 3, math.MaxInt: 2} {
		for _, by := range []byte{0, 1, 7, 0x80, 0xFF} {
			request := []byte{1, 0, 0, 5, 1}
			o := on(t, big())
			o.doAs(t, inject(world.ToPeer, request...), api.OK)
			o.doAs(t, change(world.ToPeer, at, by), api.OK)
			request[place] ^= by
			p, _ := peer.New(o.c.Peer)
			said, want := p.Take(request)
			o.doAs(t, deliver(world.ToPeer, 0), want)
			o.hold(t, 0, min(len(said), 1), 0, 0)
		}
	}
	// The same again: it is as it was.
	o := on(t, big())
	o.do(t, start())
	for range 2 {
		o.doAs(t, change(world.ToPeer, 3, 0x55), api.OK)
	}
	o.calm(t, 100)
	o.areIn(t, 1)
	// The Id of a Response: the gate waits for 0.
	o = on(t, big())
	o.do(t, start())
	o.doAs(t, inject(world.FromPeer, 2, 7, 0, 6, 1, 'x'), api.OK)
	o.doAs(t, change(world.FromPeer, 7, 7), api.OK)
	o.doAs(t, deliver(world.FromPeer, 0), api.OK)
	o.stands(t, peer.Idle, port.Waiting)
}

func TestInject(t *testing.T) {
	for _, n := range []int{0, 1, 5, 4095, 4096, 4097, 4098, 8192, 1 << 20} {
		for bag := range 4 {
			o := on(t, big())
			o.doAs(t, inject(bag, sample.Filled(n, 1)...), map[bool]api.Errno{true: api.OK, false: api.ErrBig}[n <= 4096])
			want := []int{0, 0, 0, 0}
			if n > 0 && n <= 4096 {
				want[bag] = 1
			}
			o.hold(t, want...)
			if want[bag] > 0 {
				o.do(t, deliver(bag, 0))
			}
		}
	}
	for bag := range 4 {
		o := on(t, big())
		o.fill(t, bag, 99)
		o.doAs(t, inject(bag), api.OK)
		o.doAs(t, inject(bag, make([]byte, 4097)...), api.ErrBig)
		o.doAs(t, inject(bag, 1), api.OK)
		o.doAs(t, inject(bag, 1), api.ErrFull)
		o.doAs(t, inject(bag), api.ErrFull)
		o.doAs(t, inject(bag, make([]byte, 4096)...), api.ErrFull)
		o.doAs(t, inject(bag, make([]byte, 4097)...), api.ErrBig)
		o.doAs(t, inject((bag+1)%4, 1), api.OK)
		o.doAs(t, drop(bag, 50), api.OK)
		o.doAs(t, inject(bag, 1), api.OK)
		o.doAs(t, inject(bag, 1), api.ErrFull)
	}
}

// What is said into a full bag is lost; what was taken out of another one is gone.
func TestFullBags(t *testing.T) {
	for bag := range 4 {
		o := on(t, big())
		o.do(t, start())
		o.calm(t, bag)
		next := (bag + 1) % 4
		o.fill(t, next, 100)
		o.doAs(t, deliver(bag, 0), api.OK)
		want := []int{0, 0, 0, 0}
		want[next] = 100
		o.hold(t, want...)
		// What is lost is said again.
		for range 100 {
			o.doAs(t, drop(next, 0), api.OK)
		}
		o.do(t, tick())
		o.do(t, tick())
		o.calm(t, 100)
		o.areIn(t, 1)
	}
	// What the gate says again is lost, too.
	for calm, bag := range map[int]int{0: world.ToPeer, 2: world.ToServer} {
		o := on(t, big())
		o.do(t, start())
		o.calm(t, calm)
		o.fill(t, bag, 100)
		o.do(t, tick())
		o.do(t, tick())
		want := []int{0, 0, 0, 0}
		want[bag] = 100
		o.hold(t, want...)
	}
}

func packetOf(t *testing.T, o *both, bag int) []byte {
	t.Helper()
	if len(o.m.bags[bag]) == 0 {
		t.Fatalf("bag %d is empty", bag)
	}
	return bytes.Clone(o.m.bags[bag][0])
}

// A tick is one of all three: what the gate says again goes where it went.
func TestTick(t *testing.T) {
	c := home.On(t, big())
	c.Port.Tries, c.Port.Wait, c.Peer.Wait, c.Server.Life = 5, 3, 7, 5
	o := newBoth(t, c)
	o.doAs(t, tick(), api.OK)
	o.do(t, start())
	for n := 1; n <= 12; n++ {
		o.doAs(t, tick(), api.OK)
		o.hold(t, 1+n/3, 0, 0, 0)
	}
	// All of them are the same.
	first := packetOf(t, o, world.ToPeer)
	for _, m := range o.m.bags[world.ToPeer] {
		if !bytes.Equal(m, first) {
			t.Errorf("%x is said, not %x", m, first)
		}
	}
	for range 4 {
		o.do(t, drop(world.ToPeer, 0))
	}
	o.calm(t, 2)
	for n := 1; n < 7; n++ {
		o.do(t, tick())
		o.hold(t, 0, 0, 1+n/3, 0)
	}
	// The peer has waited for six; now it is lost.
	o.stands(t, peer.Talking, port.Waiting)
	o.do(t, tick())
	o.stands(t, peer.Lost, port.Waiting)
	// The talk that begins now ends behind five.
	o.do(t, deliver(world.ToServer, 0))
	for n := 1; n <= 5; n++ {
		if l := o.w.Look(); l.Talks != 1 {
			t.Errorf("%d talks behind %d ticks", l.Talks, n-1)
		}
		o.do(t, tick())
	}
	if l := o.w.Look(); l.Talks != 0 || l.Kept != 1 || l.Port != port.Waiting {
		t.Errorf("it stands %v", l)
	}
	for range 3 {
		o.do(t, tick())
	}
	o.stands(t, peer.Lost, port.Lost)
}

// Calm delivers the first message of the first bag that has one, so often at most.
func TestCalm(t *testing.T) {
	whole := on(t, big())
	whole.do(t, start())
	n := whole.calm(t, math.MaxInt)
	if n < 10 || whole.w.Look().Bags != [4]int{} {
		t.Errorf("%d are delivered", n)
	}
	for most := range n + 3 {
		o := on(t, big())
		o.do(t, start())
		if got := o.calm(t, most); got != min(most, n) {
			t.Errorf("%d at most: %d are delivered", most, got)
		}
		if got := o.calm(t, math.MaxInt); got != n-min(most, n) {
			t.Errorf("behind %d: %d are delivered", most, got)
		}
		o.areIn(t, 1)
	}
	o := on(t, big())
	o.do(t, start())
	for _, most := range []int{0, -1, -1 << 32, math.MinInt} {
		if got := o.calm(t, most); got != 0 {
			t.Errorf("%d at most: %d are delivered", most, got)
		}
	}
	o.hold(t, 1, 0, 0, 0)
}

// The order of bags: what is taken out of a bag behind leads to one ahead of it.
func TestOrderOfCalm(t *testing.T) {
	o := on(t, big())
	for bag := range 4 {
		o.fill(t, bag, 3)
	}
	for n := range 12 {
		want := []int{3, 3, 3, 3}
		for i := range n {
			want[i/3]--
		}
		o.hold(t, want...)
		if o.calm(t, 1) != 1 {
			t.Error("nothing is delivered")
		}
	}
	if o.calm(t, 1) != 0 {
		t.Error("something is delivered")
	}
	// Within a bag the eldest is the first.
	o = three(t)
	o.do(t, start())
	o.calm(t, 3)
	o.stands(t, peer.Idle, port.Asking)
	o.calm(t, 1)
	o.stands(t, peer.Talking, port.Asking)
}

// Another peer comes: what is on its way stays, and gate and server know nothing of it.
func TestAgain(t *testing.T) {
	o := on(t, big())
	o.do(t, start())
	o.calm(t, 100)
	o.areIn(t, 1)
	for _, wrong := range []peer.Config{{}, {Size: 16}, {Size: 16, Wait: 1001}, {Name: string(make([]byte, 65)), Size: 16, Wait: 1}} {
		if e := o.again(t, wrong); e != api.ErrArg {
			t.Errorf("error %d", e)
		}
		o.areIn(t, 1)
	}
	o.do(t, start())
	o.do(t, inject(world.FromPeer, 9))
	if e := o.again(t, o.c.Peer); e != api.OK {
		t.Errorf("error %d", e)
	}
	o.hold(t, 1, 1, 0, 0)
	o.stands(t, peer.Idle, port.Asking)
	o.calm(t, 100)
	o.areIn(t, 2)
	// Somebody else who isn't believed, and then the first one again.
	stranger := o.c.Peer
	stranger.Tls.Secret[31]++
	o.again(t, stranger)
	o.do(t, start())
	o.calm(t, 100)
	o.stands(t, peer.Failed, port.Shut)
	if len(o.w.Grants()) != 2 {
		t.Errorf("%d are let in", len(o.w.Grants()))
	}
	o.again(t, o.c.Peer)
	o.do(t, start())
	o.calm(t, 100)
	o.areIn(t, 3)
	// In the middle of a talk: the gate still asks him who was there.
	o.again(t, o.c.Peer)
	o.do(t, start())
	o.calm(t, 4)
	o.again(t, o.c.Peer)
	o.calm(t, 100)
	o.stands(t, peer.Accepted, port.Open)
}

func TestNoWorld(t *testing.T) {
	for _, w := range []*world.World{nil, {}} {
		for what := -1; what < 9; what++ {
			for _, bag := range []int{-1, 0, 3, 4} {
				if l := w.Do(world.Step{What: what, Bag: bag, By: 1, Bytes: []byte{1}}); l != (world.Look{Err: api.ErrArg}) {
					t.Errorf("step %d: %v", what, l)
				}
			}
		}
		if l := w.Look(); l != (world.Look{Err: api.ErrArg}) {
			t.Errorf("it stands %v", l)
		}
		for _, most := range []int{-1, 0, 1, math.MaxInt} {
			if n := w.Calm(most); n != 0 {
				t.Errorf("%d are delivered", n)
			}
		}
		k, ok := w.PeerKeys()
		g, too := w.PortKeys()
		if ok || too || k.Session[0] != 0 || g != [64]byte{} || len(w.Grants()) > 0 {
			t.Errorf("keys %v, %v, %d are let in", ok, too, len(w.Grants()))
		}
		for _, c := range []peer.Config{{}, home.On(t, big()).Peer} {
			if e := w.Again(c); e != api.ErrArg {
				t.Errorf("another peer: error %d", e)
			}
		}
	}
}
