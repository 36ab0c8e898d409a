package house

import (
	"slices"

	"tollgate/sample"
	"tollgate/tls"
)

// Lent is a Config that is handed in, and kept an eye on: its lists and bytes have spare room with marks in it.
type Lent struct {
	tls.Config
	was tls.Config
}

// Lend lends what c says; c itself nobody sees.
func Lend(c tls.Config) *Lent {
	l := &Lent{Config: Copy(c), was: Copy(c)}
	l.Chain, l.Roots = roomyOf(c.Chain), roomyOf(c.Roots)
	l.Saved.Ticket, l.Saved.Peer.Key = sample.Roomy(c.Saved.Ticket), sample.Roomy(c.Saved.Peer.Key)
	return l
}

func roomyOf(list [][]byte) [][]byte {
	var all [][]byte
	for _, b := range list {
		all = append(all, sample.Roomy(b))
	}
	return append(all, sample.Roomy([]byte("spare")))[:len(list)]
}

// all are its bytes, those in its lists' spare room among them.
func (l *Lent) all() [][]byte {
	return slices.Concat([][]byte{l.Saved.Ticket, l.Saved.Peer.Key}, l.Chain[:len(l.Chain)+1], l.Roots[:len(l.Roots)+1])
}

// Unchanged tells a fault, if it isn't any more what it was.
func (l *Lent) Unchanged(t sample.Test) {
	t.Helper()
	wanted := Lend(l.was).all()
	for i, b := range l.all() {
		sample.Unchanged(t, "a Config", b, wanted[i])
	}
}

// Spoil changes all of it: who kept something of it has that changed, too.
func (l *Lent) Spoil() {
	for _, b := range l.all() {
		for i := range b[:cap(b)] {
			b[:cap(b)][i] ^= 0xA5
		}
	}
	clear(l.Chain[:cap(l.Chain)])
	clear(l.Roots[:cap(l.Roots)])
}
