package method_test

import (
	"bytes"
	"testing"

	"tollgate/api"
	"tollgate/house"
	"tollgate/method"
	"tollgate/sample"
)

func spoil(b []byte) {
	b = b[:cap(b)]
	for i := range b {
		b[i] ^= 0xA5
	}
}

// Whatever becomes of a Config, of what came, and of what was answered: the talk goes on.
func TestNothingIsKeptOrShared(t *testing.T) {
	t.Parallel()
	for _, p := range house.Paths([2]int{4000, 4000}, [2]int{100, 300}) {
		a, b := home.On(t, p)
		lentA, lentB := house.Lend(a), house.Lend(b)
		x, e := method.Peer(lentA.Config, p.Sizes[0])
		y, f := method.Server(lentB.Config, p.Sizes[1])
		if e != api.OK || f != api.OK {
			t.Fatal("no ends: errors ", e, f)
		}
		lentA.Unchanged(t)
		lentB.Unchanged(t)
		lentA.Spoil()
		lentB.Spoil()
		next := bytes.Clone(start)
		for i, want := range talkOf(t, p) {
			if !bytes.Equal(next, want) {
				t.Fatalf("%v: packet %d is %.30x, not %.30x", p, i, next, want)
			}
			handed := sample.Roomy(next)
			spoil(next)
			m := x
			if i%2 == 1 {
				m = y
			}
			if next, e = m.Step(handed); e != api.OK {
				t.Fatalf("%v: packet %d: error %d", p, i, e)
			}
			sample.Unchanged(t, "a packet", handed, want)
			spoil(handed)
		}
		w := newWords(a, p.Sizes[0], false)
		answerEachOther(w, newWords(b, p.Sizes[1], true))
		want, _ := w.side.Saved()
		if v, _ := x.Saved(); !house.SameSaved(v, want) {
			t.Errorf("%v: %v is kept, not %v", p, v, want)
		}
		keptIsNew(t, x)
		if !x.Done() || !y.Done() {
			t.Errorf("%v: not done", p)
		}
	}
}

// keptIsNew: what becomes of what an end kept is nothing to the next answer.
func keptIsNew(t *testing.T, m *method.Method) {
	t.Helper()
	first, ok := m.Saved()
	second, _ := m.Saved()
	if !ok || !house.SameSaved(first, second) {
		t.Fatal("nothing is kept")
	}
	want := second
	want.Ticket, want.Peer.Key = bytes.Clone(second.Ticket), bytes.Clone(second.Peer.Key)
	spoil(first.Ticket)
	spoil(first.Peer.Key)
	if third, _ := m.Saved(); !house.SameSaved(second, want) || !house.SameSaved(third, want) {
		t.Error("what is kept is shared")
	}
}

// An alert, and an Ack, are new memory.
func TestAnswersAreNew(t *testing.T) {
	t.Parallel()
	_, b := home.Ends(t)
	for _, packet := range [][]byte{{0, 22, 3, 3, 0, 0}, counted(0xC0, 5, 1), {0, 21, 3, 3, 0, 2, 2, 40}, {0x40}} {
		var wanted []byte
		for i := range 3 {
			m, _ := method.Server(b, 100)
			handed := sample.Roomy(packet)
			said, _ := m.Step(handed)
			sample.Unchanged(t, "a packet", handed, packet)
			if i == 0 {
				wanted = bytes.Clone(said)
			}
			if !bytes.Equal(said, wanted) {
				t.Errorf("%x: %x, not %x", packet, said, wanted)
			}
			spoil(said)
		}
	}
}

// Two ends of one Config share nothing.
func TestEndsOfOneConfig(t *testing.T) {
	t.Parallel()
	p := house.Path{Resumed: true, Sizes: [2]int{50, 50}}
	a, _ := home.On(t, p)
	one, _ := method.Peer(a, 50)
	two, _ := method.Peer(a, 50)
	for i, e := 0, api.OK; i < 6; i++ {
		b := ack
		if i == 0 {
			b = start
		}
		var first, second []byte
		first, e = one.Step(b)
		kept := bytes.Clone(first)
		spoil(first)
		if second, _ = two.Step(b); e != api.OK || !bytes.Equal(second, kept) {
			t.Fatalf("packet %d: %x, not %x, error %d", i, second, kept, e)
		}
	}
}
