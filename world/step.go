package world

import (
	"bytes"

	"tollgate/api"
)

// empty: a world that New didn't make counts as none.
func (w *World) empty() bool { return w == nil || w.peer == nil }

func (w *World) happen(s Step) api.Errno {
	switch s.What {
	case Start:
		said, e := w.port.Start()
		w.say(ToPeer, said)
		return e
	case Deliver, Drop, Twice, Change:
		return w.befall(s)
	case Inject:
		return w.inject(s.Bag, s.Bytes)
	case Tick:
		w.tick()
		return api.OK
	}
	return api.ErrArg
}

// befall: something happens to a message that is there.
func (w *World) befall(s Step) api.Errno {
	if !isBag(s.Bag) || len(w.bags[s.Bag]) == 0 {
		return api.ErrMiss
	}
	b := &w.bags[s.Bag]
	at := place(s.At, len(*b))
	switch s.What {
	case Deliver:
		return w.deliver(s.Bag, b.take(at))
	case Drop:
		b.take(at)
	case Twice:
		// Both go their own way: what changes one of them is nothing to the other.
		return b.put(bytes.Clone((*b)[at]))
	case Change:
		m := (*b)[at]
		m[place(s.At, len(m))] ^= s.By
	}
	return api.OK
}

// deliver hands a message over to him whom its bag leads to. What he says to it goes the way of the next bag, which
// behind the last one is the first one.
func (w *World) deliver(bag int, m []byte) api.Errno {
	var said []byte
	var e api.Errno
	switch bag {
	case ToPeer:
		said, e = w.peer.Take(m)
	case FromPeer:
		said, e = w.port.FromPeer(m)
	case ToServer:
		said, e = w.server.Take(m)
	case FromServ:
		said, e = w.port.FromServer(m)
	}
	// An error may have an answer, too: an alert.
	w.say((bag+1)%Bags, said)
	return e
}

func (w *World) inject(bag int, m []byte) api.Errno {
	if !isBag(bag) {
		return api.ErrMiss
	}
	if len(m) > api.MaxPacket {
		return api.ErrBig
	}
	if w.bags[bag].isFull() {
		return api.ErrFull
	}
	w.say(bag, bytes.Clone(m))
	return api.OK
}

func (w *World) tick() {
	w.peer.Tick()
	w.server.Tick()
	toPeer, toServer := w.port.Tick()
	w.say(ToPeer, toPeer)
	w.say(ToServer, toServer)
}
