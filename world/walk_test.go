package world_test

import (
	"bytes"
	"math/rand"
	"strconv"
	"sync/atomic"
	"testing"

	"tollgate/api"
	"tollgate/house"
	"tollgate/peer"
	"tollgate/port"
	"tollgate/radius"
	"tollgate/sample"
	"tollgate/server"
	"tollgate/world"
)

// walk is a world to which anything happens by chance.
type walk struct {
	*both
	r     *rand.Rand
	wild  bool // whether messages are changed and made up
	opens int
	asks  int // how many were made up that are sealed by the right secret
	ends  [port.Lost + 1]int
}

func newWalk(t *testing.T, seed int, wild bool) *walk {
	t.Helper()
	r := rand.New(rand.NewSource(int64(seed)))
	c := home.On(t, house.Paths([2]int{3800, 4000}, [2]int{900, 700})[r.Intn(8)])
	c.Port.Tries, c.Port.Wait = 1+r.Intn(5), 1+r.Intn(4)
	c.Peer.Wait = 10 + r.Intn(40)
	c.Server.Sessions, c.Server.Answers, c.Server.Life = 1+r.Intn(3), 1+r.Intn(4), 5+r.Intn(40)
	return &walk{both: newBoth(t, c), r: r, wild: wild}
}

// goOn is a step; what must hold behind it.
func (w *walk) goOn(t *testing.T) {
	t.Helper()
	was := w.w.Look().Port
	w.next(t)
	l := w.w.Look()
	if was != port.Open && l.Port == port.Open {
		w.opens++
	}
	if was != l.Port {
		w.ends[l.Port]++
	}
	w.isBounded(t, l)
	w.isLetIn(t)
}

func (w *walk) isBounded(t *testing.T, l world.Look) {
	t.Helper()
	if l.Talks > w.c.Server.Sessions || l.Kept > w.c.Server.Answers || len(w.w.Grants()) > 100 {
		t.Errorf("%d talks, %d answers, %d are let in", l.Talks, l.Kept, len(w.w.Grants()))
	}
	for i, n := range l.Bags {
		if n > world.MostBag {
			t.Errorf("bag %d holds %d", i, n)
		}
	}
}

// isLetIn: a gate that is open has the keys of one whom the server let in, and it opens no more often than that.
func (w *walk) isLetIn(t *testing.T) {
	t.Helper()
	list := w.w.Grants()
	k, ok := w.w.PortKeys()
	if ok != (w.w.Look().Port == port.Open) || ok && !hasKeys(list, k) || !ok && k != [64]byte{} {
		t.Errorf("the gate's keys: %v; they aren't those of one who was let in", ok)
	}
	if w.opens > len(list) {
		t.Errorf("it opened %d times, but %d were let in", w.opens, len(list))
	}
	if k, ok := w.w.PeerKeys(); ok != (w.w.Look().Peer == peer.Accepted) || !ok && k.Session[0] != 0 {
		t.Errorf("the peer's keys: %v", ok)
	}
}

func hasKeys(list []server.Grant, k [64]byte) bool {
	for _, g := range list {
		if g.Keys.Msk == k {
			return true
		}
	}
	return false
}

// next lets something happen: what is said comes to its end often enough, and all else in between.
func (w *walk) next(t *testing.T) {
	t.Helper()
	l := w.w.Look()
	bag, at := w.r.Intn(4), w.r.Int()-w.r.Int()
	over := l.Port == port.Idle || l.Port >= port.Open
	switch n := w.r.Intn(40); {
	case n < 4 && over || n == 0:
		if l.Peer >= peer.Accepted {
			w.again(t, w.c.Peer)
		}
		w.do(t, start())
	case n < 5 && l.Peer >= peer.Accepted:
		w.again(t, w.c.Peer)
	case n < 6:
		w.do(t, tick())
	case n < 9:
		w.do(t, drop(bag, at))
	case n < 12:
		w.do(t, twice(bag, at))
	case n < 14 && w.wild:
		w.do(t, change(bag, at, byte(w.r.Int())))
	case n < 17 && w.wild:
		w.do(t, inject(bag, w.madeUp(t)...))
	case n < 19:
		w.calm(t, w.r.Intn(9))
	default:
		w.do(t, deliver(bag, at))
	}
}

// madeUp is a message of somebody who has heard all that was said, and who may have the secret of gate and server.
func (w *walk) madeUp(t *testing.T) []byte {
	t.Helper()
	id := byte(w.r.Intn(9))
	switch w.r.Intn(9) {
	case 0:
		return sample.Filled(w.r.Intn(30), w.r.Int())
	case 1:
		return []byte{byte(1 + w.r.Intn(2)), id, 0, 5, byte(1 + w.r.Intn(4))}
	case 2:
		return []byte{byte(3 + w.r.Intn(2)), id, 0, 4}
	case 3:
		return []byte{byte(1 + w.r.Intn(2)), id, 0, 6, 13, 0}
	case 4:
		return make([]byte, 4097)
	case 5, 6:
		w.asks++
		b, e := radius.Seal(radius.Packet{Code: radius.Ask, Id: w.asks % 256, Auth: [16]byte{byte(w.asks)}, Attrs: radius.Split([]byte{2, id, 0, 5, 1})}, w.c.Server.Secret)
		if e != api.OK {
			t.Fatal("not sealed: error ", e)
		}
		return b
	}
	// Something that is on its way, as it is or changed.
	bag := w.m.bags[w.r.Intn(4)]
	if len(bag) == 0 {
		return nil
	}
	b := bytes.Clone(bag[w.r.Intn(len(bag))])
	b[w.r.Intn(len(b))] ^= byte(w.r.Intn(3))
	return b
}

// walks goes through many worlds; how often gates came to each state.
func walks(t *testing.T, count, steps int, wild bool) [port.Lost + 1]int32 {
	t.Helper()
	var ends [port.Lost + 1]atomic.Int32
	t.Run("all", func(t *testing.T) {
		for seed := range count {
			t.Run(strconv.Itoa(seed), func(t *testing.T) {
				t.Parallel()
				w := newWalk(t, seed, wild)
				for range steps {
					w.goOn(t)
				}
				for i, n := range w.ends {
					ends[i].Add(int32(n))
				}
			})
		}
	})
	var all [port.Lost + 1]int32
	for i := range all {
		all[i] = ends[i].Load()
	}
	return all
}

// When nothing is changed or made up, whatever is lost, doubled, turned round.
func TestWalks(t *testing.T) {
	ends := walks(t, 60, 500, false)
	if ends[port.Open] < 100 || ends[port.Lost] < 100 {
		t.Errorf("the states are reached %v times", ends)
	}
}

// Whatever happens.
func TestWildWalks(t *testing.T) {
	ends := walks(t, 200, 500, true)
	if ends[port.Open] < 10 || ends[port.Lost] < 10 || ends[port.Shut] < 10 {
		t.Errorf("the states are reached %v times", ends)
	}
}
