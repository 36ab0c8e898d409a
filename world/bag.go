package world

import (
	"slices"

	"tollgate/api"
)

// bag is messages that are on their way, the eldest first; none of them is empty.
type bag [][]byte

func isBag(n int) bool { return 0 <= n && n < Bags }

// place is that, among so many, to which a number leads: one below 0 counts as a number without a sign.
func place(at, count int) int { return int(uint64(at) % uint64(count)) }

func (b bag) isFull() bool { return len(b) >= MostBag }

func (b *bag) put(m []byte) api.Errno {
	if b.isFull() {
		return api.ErrFull
	}
	*b = append(*b, m)
	return api.OK
}

func (b *bag) take(at int) []byte {
	m := (*b)[at]
	*b = slices.Delete(*b, at, at+1)
	return m
}

// say sends something on its way. Where there is no room it is lost, as much else is on the way.
func (w *World) say(bag int, m []byte) {
	if len(m) > 0 {
		w.bags[bag].put(m)
	}
}

// firstWithSome is the first bag with a message in it; below 0: there is none.
func (w *World) firstWithSome() int {
	return slices.IndexFunc(w.bags[:], func(b bag) bool { return len(b) > 0 })
}
