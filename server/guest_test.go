package server_test

import (
	"bytes"
	"slices"
	"testing"

	"tollgate/api"
	"tollgate/house"
	"tollgate/method"
	"tollgate/radius"
	"tollgate/wrap"
)

// guest is one who wants to come in, and his gate.
type guest struct {
	method *method.Method
	number int // of the next Ask
	next   []byte
	known  []radius.Attr
}

// guestOn is one on a path, whose Asks have numbers from first on.
func guestOn(t *testing.T, p house.Path, first int) *guest {
	t.Helper()
	a, _ := home.On(t, p)
	m, e := method.Peer(a, p.Sizes[0])
	if e != api.OK {
		t.Fatal("no peer: error ", e)
	}
	return &guest{method: m, number: first, next: packet(2, first%256, 1, 'b', 'o', 'b')}
}

// ask is what the server is asked next.
func (g *guest) ask(t *testing.T) []byte {
	t.Helper()
	g.number++
	return ask(t, g.number-1, with(g.next, g.known...)...)
}

// hear takes the answer to the last Ask; the code of what was in it.
func (g *guest) hear(t *testing.T, asked, b []byte) int {
	t.Helper()
	p, e := radius.Opened(b, [16]byte(asked[4:20]), []byte(secret))
	if e != api.OK || p.Id != int(asked[1]) {
		t.Fatalf("no answer to that: Id %d, error %d", p.Id, e)
	}
	told := radius.Join(p.Attrs)
	if p.Code != radius.Challenge {
		g.isTold(t, p, told, asked)
		return int(told[0])
	}
	data, e := g.method.Step(told[5:])
	if told[0] != 1 || told[4] != 13 || e != api.OK {
		t.Fatalf("%.20x is told, error %d", told, e)
	}
	g.next = packet(2, int(told[1]), 13, data...)
	value, ok := radius.Find(p.Attrs, radius.State)
	if !ok || len(p.Attrs) < 2 || p.Attrs[0].Kind != radius.State {
		t.Fatalf("no State ahead of the rest: %v", p.Attrs)
	}
	g.known = []radius.Attr{{Kind: radius.State, Value: value}}
	return int(told[0])
}

// isTold holds an Accept's parts, and a Reject's.
func (g *guest) isTold(t *testing.T, p radius.Packet, told, asked []byte) {
	t.Helper()
	if p.Code == radius.Reject {
		if !bytes.Equal(told, end(4, int(g.next[1]))) || len(p.Attrs) != 1 {
			t.Errorf("a Reject with %x, %d attributes", told, len(p.Attrs))
		}
		return
	}
	k, ok := g.method.Keys()
	if p.Code != radius.Accept || !ok || !bytes.Equal(told, end(3, int(g.next[1]))) || len(p.Attrs) != 3 || p.Attrs[1].Kind != radius.Vendor || p.Attrs[2].Kind != radius.Vendor {
		t.Fatalf("code %d with %x, keys %v, %d attributes", p.Code, told, ok, len(p.Attrs))
	}
	number := g.known[0].Value[7]
	for i, kind := range []int{wrap.Recv, wrap.Send} {
		got, key, e := wrap.Unwrap(p.Attrs[1+i].Value, [16]byte(asked[4:20]), []byte(secret))
		salt := []byte{0x80 + byte(i), number}
		if e != api.OK || got != kind || !bytes.Equal(key, k.Msk[32*i:32*i+32]) || !bytes.Equal(p.Attrs[1+i].Value[6:8], salt) {
			t.Errorf("key %d: kind %d, salt %x, error %d", i, got, p.Attrs[1+i].Value[6:8], e)
		}
	}
}

// goOn lets a guest ask so many times at most; the code of what he was told last.
func (o *both) goOn(t *testing.T, g *guest, most int) int {
	t.Helper()
	code := 1
	for i := 0; i < most && code == 1; i++ {
		asked := g.ask(t)
		code = g.hear(t, asked, o.takeAs(t, asked, api.OK))
	}
	return code
}

// asksOn are all that a gate asks on a path.
func asksOn(t *testing.T, p house.Path) [][]byte {
	t.Helper()
	w := &words{c: configOn(t, p), talks: map[int]*talkWords{}}
	g := guestOn(t, p, 20)
	var all [][]byte
	for code := 1; code == 1; {
		asked := g.ask(t)
		said, e := w.take(asked)
		if e != api.OK {
			t.Fatalf("Ask %d is refused: error %d", len(all), e)
		}
		all = append(all, asked)
		code = g.hear(t, asked, said)
	}
	return all
}

// reached is a server that was asked all ahead of the Ask at.
func reached(t *testing.T, p house.Path, asks [][]byte, at int) *both {
	t.Helper()
	o := newBoth(t, configOn(t, p))
	for _, b := range asks[:at] {
		o.takeAs(t, b, api.OK)
	}
	return o
}

// otherwise is an Ask with the same Id, Auth and attributes but Eap's, and another packet in it.
func otherwise(t *testing.T, asked, b []byte) []byte {
	t.Helper()
	p, e := radius.Open(asked, []byte(secret))
	if e != api.OK {
		t.Fatal("no Ask: error ", e)
	}
	p.Attrs = slices.DeleteFunc(p.Attrs, func(a radius.Attr) bool { return a.Kind == radius.Eap })
	p.Attrs = with(b, p.Attrs...)
	other, e := radius.Seal(p, []byte(secret))
	if e != api.OK {
		t.Fatal("the Ask isn't sealed: error ", e)
	}
	return other
}

// responseIn is the Response in an Ask.
func responseIn(t *testing.T, asked []byte) []byte {
	t.Helper()
	p, e := radius.Open(asked, []byte(secret))
	if e != api.OK {
		t.Fatal("no Ask: error ", e)
	}
	return radius.Join(p.Attrs)
}
