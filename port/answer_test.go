package port_test

import (
	"bytes"
	"slices"
	"testing"

	"tollgate/api"
	"tollgate/port"
	"tollgate/sample"
	"tollgate/wrap"
)

// packetsOfPeers are such that may come from a peer: of each code, for each Id about.
func packetsOfPeers() [][]byte {
	list := [][]byte{nil, {}, {2}, {2, 7, 0}, {2, 7, 0, 4}, {2, 7, 0, 5, 0}, {2, 7, 0, 6, 1}, {2, 7, 0, 5, 1, 0}, {0, 7, 0, 5, 1}, {5, 7, 0, 5, 1}, {3, 7, 0, 5, 1}, make([]byte, 5000)}
	for _, id := range []int{0, 1, 6, 7, 8, 255} {
		for _, kind := range []int{1, 2, 3, 4, 13, 254, 255} {
			for _, data := range [][]byte{nil, {0}, []byte("eve"), sample.Filled(300, id)} {
				list = append(list, packet(1, id, kind, data...), packet(2, id, kind, data...))
			}
		}
		list = append(list, end(3, id), end(4, id))
	}
	return list
}

// A Response to the Id that is asked for is passed on, of whatever type, and nothing else, and only by one that asks.
func TestFromPeer(t *testing.T) {
	for i := range all(t) {
		passed := 0
		for _, b := range packetsOfPeers() {
			o := all(t)[i]
			stood := o.w.state
			said, e := o.fromPeer(t, b)
			if e == api.OK {
				o.is(t, port.Waiting)
				passed++
			} else if o.p.State() != stood || len(said) > 0 {
				t.Errorf("it is %d, not %d, and says %x", o.p.State(), stood, said)
			}
			// Another one isn't passed on as long as that isn't answered.
			o.fromPeer(t, b)
			o.fromPeer(t, packet(2, 7, 13))
		}
		if want := map[bool]int{true: 28, false: 0}[i == 1 || i == 2]; passed != want {
			t.Errorf("state %d: %d Responses are passed on", i, passed)
		}
	}
	// What is wrong with the bytes is told ahead of what is wrong with the time.
	for _, o := range all(t) {
		_, e := o.fromPeer(t, []byte{2, 7, 0})
		isAs(t, e, api.ErrTail)
		_, e = o.fromPeer(t, []byte{5, 7, 0, 4})
		isAs(t, e, api.ErrForm)
	}
}

// inner are the packets that may be in an answer.
func inner() [][]byte {
	return [][]byte{nil, {1}, {1, 7, 0}, {1, 7, 0, 4}, {1, 7, 0, 6, 1}, {1, 7, 0, 5, 1, 0}, {4, 7, 0, 5, 1}, packet(1, 8, 13, 0x20), packet(1, 7, 1), packet(1, 0, 255, sample.Filled(700, 1)...), packet(2, 8, 13, 0),
		end(3, 7), end(3, 9), end(4, 7), end(4, 0)}
}

// Each answer with each packet in it: what doesn't fit is refused, and then the right one is taken.
func TestFromServer(t *testing.T) {
	taken := map[int]int{}
	for code := range 13 {
		for _, b := range inner() {
			for _, withKeys := range []bool{false, true} {
				o := waiting(t, config())
				attrs := [][]byte{attr(24, 5), inEap(b)}
				if withKeys {
					attrs = append(attrs, o.keys(t))
				}
				said, e := o.fromServer(t, o.answer(code, attrs...))
				if e == api.OK {
					taken[code]++
					if !bytes.Equal(said, b) {
						t.Errorf("%x is told, not %x", said, b)
					}
					continue
				}
				o.is(t, port.Waiting)
				o.tick(t)
				o.tick(t)
				o.fromServer(t, o.answer(2, inEap(end(3, 7)), o.keys(t)))
				o.is(t, port.Open)
			}
		}
	}
	if len(taken) != 3 || taken[11] != 6 || taken[2] != 2 || taken[3] != 4 {
		t.Errorf("taken: %v", taken)
	}
}

// Answers are for one that waits.
func TestAnswersAtTheWrongTime(t *testing.T) {
	for _, o := range all(t) {
		if o.w.state == port.Waiting {
			continue
		}
		stood := o.w.state
		for _, b := range [][]byte{nil, {1}, make([]byte, 5000), o.answer(3, inEap(end(4, 7))), o.answer(11, inEap(packet(1, 8, 13))), o.answer(2, inEap(end(3, 7)), o.key(t, 16, 32, 1), o.key(t, 17, 32, 1))} {
			said, e := o.fromServer(t, b)
			isAs(t, e, api.ErrState)
			if o.is(t, stood); len(said) > 0 {
				t.Errorf("%x is told", said)
			}
		}
	}
}

// Answers to another Ask, by another secret, changed, or of another kind.
func TestAnswersThatAreNone(t *testing.T) {
	o := waiting(t, config())
	accept := slices.Concat(inEap(end(3, 7)), o.keys(t))
	refused := func(b []byte, want api.Errno) {
		t.Helper()
		_, e := o.fromServer(t, b)
		isAs(t, e, want)
		o.is(t, port.Waiting)
	}
	id, auth, secret := o.w.asks-1, o.w.auth, o.w.c.Secret
	for _, code := range []int{2, 3, 11} {
		refused(answerOf(code, id, auth, accept, append(bytes.Clone(secret), 0)), api.ErrMac)
		refused(answerOf(code, id, auth, accept, nil), api.ErrMac)
		refused(answerOf(code, id, authOf(o.w.c.Draw, 0), accept, secret), api.ErrMac)
		refused(markedAs(code, id, auth, accept, secret), api.ErrMac)
		for other := range 256 {
			if other != id {
				refused(answerOf(code, other, auth, accept, secret), api.ErrState)
			}
		}
	}
	refused(markedAs(1, id, auth, accept, secret), api.ErrState)
	refused(o.w.said, api.ErrState)
	right := o.answer(2, accept)
	for i := range right {
		for _, x := range []byte{1, 0x80, 0xFF} {
			b := bytes.Clone(right)
			b[i] ^= x
			_, e := o.fromServer(t, b)
			if o.is(t, port.Waiting); e == api.OK {
				t.Fatalf("byte %d is changed", i)
			}
		}
	}
	for n := range right {
		refused(right[:n], api.ErrForm)
	}
	refused(append(bytes.Clone(right), 0), api.ErrForm)
	if told, e := o.fromServer(t, right); e != api.OK || !bytes.Equal(told, end(3, 7)) {
		t.Errorf("%x is told, error %d", told, e)
	}
	o.is(t, port.Open)
}

// The packet that is told may stand in many attributes, with others between.
func TestPacketsInParts(t *testing.T) {
	b := packet(1, 9, 13, sample.Filled(40, 2)...)
	for n := 1; n <= len(b); n++ {
		o := waiting(t, config())
		var attrs []byte
		for part := range slices.Chunk(b, n) {
			attrs = slices.Concat(attrs, attr(79, part...), attr(18, 'x'), attr(79))
		}
		if told, e := o.fromServer(t, o.answer(11, attrs)); e != api.OK || !bytes.Equal(told, b) {
			t.Errorf("by %d: %x, error %d", n, told, e)
		}
		o.fromPeer(t, packet(2, 9, 13))
		o.is(t, port.Waiting)
	}
}

// The keys: the first of each kind that has 32 bytes, wherever they stand.
func TestKeys(t *testing.T) {
	o := waiting(t, config())
	foreign, _ := wrap.Wrap(wrap.Recv, make([]byte, 32), [2]byte{0x80}, o.w.auth, []byte("another"))
	strayed, _ := wrap.Wrap(wrap.Send, make([]byte, 32), [2]byte{0x80}, [16]byte{7}, o.w.c.Secret)
	parts := [][]byte{
		o.key(t, 17, 32, 1), o.key(t, 16, 32, 2), o.key(t, 17, 32, 3), o.key(t, 16, 32, 4), o.key(t, 17, 31, 5), o.key(t, 16, 33, 6), o.key(t, 17, 16, 7), o.key(t, 16, 64, 8),
		attr(26), attr(26, 0, 0, 1, 55, 17, 2), attr(26, foreign...), attr(26, strayed...), attr(25, o.key(t, 17, 32, 9)[2:]...), attr(27, o.key(t, 16, 32, 10)[2:]...), inEap(end(3, 7)),
	}
	opens := 0
	for i := range parts {
		for j := range parts {
			for k := range parts {
				for _, first := range []bool{true, false} {
					o := waiting(t, config())
					attrs := slices.Concat(parts[i], parts[j], parts[k])
					if first {
						attrs = slices.Concat(inEap(end(3, 7)), attrs)
					} else {
						attrs = append(attrs, inEap(end(3, 7))...)
					}
					if _, e := o.fromServer(t, o.answer(2, attrs)); e == api.OK {
						opens++
					}
				}
			}
		}
	}
	if opens == 0 {
		t.Error("no gate opens")
	}
	isOpenBy := func(want byte, other byte, attrs ...[]byte) {
		t.Helper()
		o := waiting(t, config())
		o.fromServer(t, o.answer(2, append(attrs, inEap(end(3, 7)))...))
		if k, ok := o.p.Keys(); !ok || !bytes.Equal(k[:], slices.Concat(bytes.Repeat([]byte{want}, 32), bytes.Repeat([]byte{other}, 32))) {
			t.Errorf("keys %v, %x", ok, k)
		}
	}
	isOpenBy(1, 2, parts[0], parts[1])
	isOpenBy(1, 2, parts[1], parts[0])
	isOpenBy(3, 2, parts[1], parts[2], parts[0], parts[3])
	isOpenBy(1, 4, parts[4], parts[5], parts[3], parts[6], parts[7], parts[0], parts[1])
}

// Keys are there just as long as the gate is open.
func TestKeysWhenOpen(t *testing.T) {
	for _, o := range all(t) {
		if _, ok := o.p.Keys(); ok != (o.w.state == port.Open) {
			t.Errorf("it is %d: keys %v", o.w.state, ok)
		}
	}
	o := opened(t, config())
	for range 10 {
		o.tick(t)
		o.fromPeer(t, packet(2, 7, 13))
		o.fromServer(t, o.answer(3, inEap(end(4, 7))))
	}
	o.is(t, port.Open)
	o.start(t)
	o.fromPeer(t, packet(2, 0, 1))
	o.fromServer(t, o.answer(3, inEap(end(4, 7))))
	o.is(t, port.Shut)
}
