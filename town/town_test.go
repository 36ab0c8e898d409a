package town_test

import (
	"testing"

	"tollgate/api"
	"tollgate/house"
	"tollgate/peer"
	"tollgate/port"
	"tollgate/town"
	"tollgate/world"
)

// On all paths a world comes where it shall.
func TestWorldsComeThere(t *testing.T) {
	var n town.Town
	for _, p := range house.Paths([2]int{100, 200}) {
		w, e := world.New(n.On(t, p))
		if e != api.OK {
			t.Fatal("no world: error ", e)
		}
		w.Do(world.Step{What: world.Start})
		w.Calm(1000)
		if l := w.Look(); l.Peer != peer.Accepted || l.Port != port.Open {
			t.Errorf("%v: %v", p, l)
		}
	}
}
