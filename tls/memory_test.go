package tls_test

import (
	"bytes"
	"fmt"
	"slices"
	"testing"

	"tollgate/api"
	"tollgate/cert"
	"tollgate/record"
	"tollgate/sample"
	"tollgate/tls"
)

// roomy is a copy of a Config, whose lists have spare room with marks in it.
func roomy(c tls.Config) tls.Config {
	c.Chain, c.Roots = roomyList(c.Chain), roomyList(c.Roots)
	c.Saved.Ticket, c.Saved.Peer.Key = sample.Roomy(c.Saved.Ticket), sample.Roomy(c.Saved.Peer.Key)
	return c
}

func roomyList(list [][]byte) [][]byte {
	all := make([][]byte, len(list)+3)
	for i := range all {
		all[i] = sample.Roomy([]byte("spare"))
	}
	for i, b := range list {
		all[i] = sample.Roomy(b)
	}
	return all[:len(list)]
}

// isUnchanged holds what roomy made of want against it.
func isUnchanged(t *testing.T, got, want tls.Config) {
	t.Helper()
	areUnchanged(t, "the chain", got.Chain, want.Chain)
	areUnchanged(t, "the roots", got.Roots, want.Roots)
	sample.Unchanged(t, "the ticket", got.Saved.Ticket, want.Saved.Ticket)
	sample.Unchanged(t, "the peer's key", got.Saved.Peer.Key, want.Saved.Peer.Key)
}

func areUnchanged(t *testing.T, what string, got, want [][]byte) {
	t.Helper()
	for i, b := range got[:cap(got)] {
		if i < len(want) {
			sample.Unchanged(t, fmt.Sprint(what, " ", i), b, want[i])
		} else {
			sample.Unchanged(t, what+": a list's spare room", b, []byte("spare"))
		}
	}
}

func spoil(c tls.Config) {
	for _, list := range [][][]byte{c.Chain, c.Roots} {
		for _, b := range list[:cap(list)] {
			spoilBytes(b)
		}
		clear(list[:cap(list)])
	}
	spoilBytes(c.Saved.Ticket)
	spoilBytes(c.Saved.Peer.Key)
}

func spoilBytes(b []byte) {
	b = b[:cap(b)]
	for i := range b {
		b[i] ^= 0xA5
	}
}

// What is handed in stays as it was, and whatever becomes of it, and of the answers, the talk goes on.
func TestNothingIsKeptOrShared(t *testing.T) {
	t.Parallel()
	for _, lazy := range []bool{false, true} {
		for _, v := range []tls.Saved{{}, saved(t)} {
			a, b := house(t)
			a.Chain = longChain(t, 3, "client", cert.Sign|cert.Client, clientNumber)
			a.Lazy, a.Saved, b.Draw = lazy, v, drawOf(7)
			want := wordsOf(t, a, b)
			roomyA, roomyB := roomy(a), roomy(b)
			c, next, e := tls.Dial(roomyA)
			s := tls.Serve(roomyB)
			if e != api.OK {
				t.Fatal("no client: error ", e)
			}
			isUnchanged(t, roomyA, a)
			isUnchanged(t, roomyB, b)
			spoil(roomyA)
			spoil(roomyB)
			to, other := s, c
			for i, right := range want.flights {
				if !bytes.Equal(next, right) {
					t.Fatalf("flight %d: %x, not %x", i, next, right)
				}
				handed := sample.Roomy(next)
				spoilBytes(next)
				next = fed(t, to, handed)
				sample.Unchanged(t, fmt.Sprint("flight ", i), handed, right)
				spoilBytes(handed)
				to, other = other, to
			}
			resumed := len(v.Ticket) > 0
			isDone(t, "the client", c, want.c, want.c.peer, resumed, true)
			isDone(t, "the server", s, want.s, want.s.peer, resumed, false)
			answersAreNew(t, c, want)
			answersAreNew(t, s, want)
		}
	}
}

// answersAreNew: what becomes of an answer is nothing to the next one.
func answersAreNew(t *testing.T, s *tls.Side, want talk) {
	t.Helper()
	peer := s.Peer()
	key := bytes.Clone(peer.Key)
	spoilBytes(peer.Key)
	if !bytes.Equal(s.Peer().Key, key) {
		t.Error("Peer's Key is shared")
	}
	if v, ok := s.Saved(); ok {
		other, _ := s.Saved()
		spoilBytes(v.Ticket)
		spoilBytes(v.Peer.Key)
		if third, _ := s.Saved(); !sameSaved(third, want.saved) || !sameSaved(other, want.saved) || !bytes.Equal(s.Peer().Key, key) {
			t.Error("Saved is shared")
		}
		spoilBytes(other.Ticket)
	}
	context := sample.Roomy([]byte("context"))
	b, _ := s.Export("l", context, 40)
	sample.Unchanged(t, "the context", context, []byte("context"))
	spoilBytes(b)
	spoilBytes(context)
	if again, _ := s.Export("l", []byte("context"), 40); !bytes.Equal(again, want.c.exports("l", []byte("context"), 40)) {
		t.Error("Export's bytes are shared")
	}
}

// A ticket's bytes, that come in what is fed, are the client's own.
func TestTicketsAreTheirOwn(t *testing.T) {
	t.Parallel()
	p := place{paths()[0], len(paths()[0].steps) - 1}
	s, f := p.reached(t)
	m := f.ticket()
	b := f.rec(record.Handshake, f.bytesOf(m))
	fed(t, s, b)
	spoilBytes(b)
	if v, _ := s.Saved(); !bytes.Equal(v.Ticket, m.Ticket) {
		t.Error("what was fed is kept")
	}
}

// What is fed stays as it was, when it is refused, too.
func TestRefusedBytesStay(t *testing.T) {
	t.Parallel()
	eachPlace(t, func(t *testing.T, p place) {
		for _, b := range [][]byte{{0}, {22, 3, 3, 0, 0}, {22, 3, 3, 0, 6, 8, 0, 0, 2, 0, 0}, {21, 3, 3, 0, 2, 2, 40}, sample.Filled(300, 1),
			append([]byte{23, 3, 3, 0, 40}, make([]byte, 40)...)} {
			s, _ := p.reached(t)
			handed := sample.Roomy(b)
			out, _ := s.Feed(handed)
			sample.Unchanged(t, p.what(), handed, b)
			spoilBytes(out)
			again, _ := p.reached(t)
			want, _ := again.Feed(b)
			spoilBytes(out)
			if !bytes.Equal(out, want) {
				t.Errorf("%s: of %.20x comes %x, then %x", p.what(), b, out, want)
			}
		}
	})
}

// An alert is new memory, and each end's own.
func TestAlertsAreNew(t *testing.T) {
	t.Parallel()
	s, _ := served(t, unchanged)
	out, _ := s.Feed([]byte{0})
	first := bytes.Clone(out)
	spoilBytes(out)
	s, _ = served(t, unchanged)
	if again, _ := s.Feed([]byte{0}); !bytes.Equal(again, first) {
		t.Errorf("%x, then %x", first, again)
	}
}

// One Config makes many ends, all the same.
func TestOneConfigForMany(t *testing.T) {
	t.Parallel()
	a, b := house(t)
	var ends []*tls.Side
	_, want := dialed(t, a)
	for range 3 {
		c, said := dialed(t, a)
		if !bytes.Equal(said, want) {
			t.Errorf("%x, not %x", said, want)
		}
		ends = append(ends, c)
	}
	f := newFar(t, b, true)
	f.hear(want)
	flight := f.begin()
	var answers [][]byte
	for _, c := range ends {
		answers = append(answers, fed(t, c, flight))
	}
	if !slices.EqualFunc(answers[1:], answers[:2], bytes.Equal) {
		t.Error("ends of one Config say different things")
	}
}
