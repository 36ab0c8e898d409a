package server_test

import (
	"bytes"
	"testing"

	"tollgate/api"
	"tollgate/house"
	"tollgate/sample"
	"tollgate/server"
)

func spoil(b []byte) {
	b = b[:cap(b)]
	for i := range b {
		b[i] ^= 0xA5
	}
}

// Whatever becomes of a Config, of what came, and of what was answered: the server goes on.
func TestNothingIsKeptOrShared(t *testing.T) {
	t.Parallel()
	for _, p := range house.Paths([2]int{3800, 4000}, [2]int{200, 300}) {
		c := configOn(t, p)
		lent, given := house.Lend(c.Tls), c
		given.Tls, given.Secret = lent.Config, sample.Roomy(c.Secret)
		s, e := server.New(given)
		if e != api.OK {
			t.Fatal("no server: error ", e)
		}
		lent.Unchanged(t)
		sample.Unchanged(t, "a secret", given.Secret, c.Secret)
		lent.Spoil()
		spoil(given.Secret)
		o := &both{s, &words{c: c, talks: map[int]*talkWords{}}}
		for i, b := range append(asksOn(t, p), asksOn(t, p)[0]) {
			want, _ := o.w.take(b)
			handed := sample.Roomy(b)
			said, e := s.Take(handed)
			again, _ := s.Take(handed)
			sample.Unchanged(t, "an Ask", handed, b)
			spoil(handed)
			if e != api.OK || !bytes.Equal(said, want) {
				t.Fatalf("%v: Ask %d: %.20x, not %.20x, error %d", p, i, said, want, e)
			}
			spoil(said)
			if !bytes.Equal(again, want) {
				t.Fatalf("%v: Ask %d: answers are shared", p, i)
			}
			spoil(again)
			if third, _ := s.Take(b); !bytes.Equal(third, want) {
				t.Fatalf("%v: Ask %d: an answer is shared", p, i)
			}
			o.isSo(t)
		}
		first := s.Grants()
		if len(first) != 1 {
			t.Fatalf("%v: %d are let in", p, len(first))
		}
		first[0] = server.Grant{}
		o.isSo(t)
	}
}

// What is refused isn't changed, either.
func TestWrongAsksAreUnchanged(t *testing.T) {
	t.Parallel()
	asks := asksOn(t, big())
	o := reached(t, big(), asks, 2)
	for b := range wrongAsks(t, asks[2]) {
		handed := sample.Roomy([]byte(b))
		o.s.Take(handed)
		sample.Unchanged(t, "an Ask", handed, []byte(b))
	}
}

// Two servers of one Config share nothing.
func TestServersAreApart(t *testing.T) {
	t.Parallel()
	one, two := newBoth(t, configOn(t, big())), newBoth(t, configOn(t, big()))
	asks := asksOn(t, big())
	one.takeAs(t, asks[0], api.OK)
	two.isSo(t)
	one.goThrough(t, asks[1:])
	two.takeAs(t, asks[1], api.ErrMiss)
	two.goThrough(t, asks)
}
