// Package town has all that a world is made of: the tests of the packages that call a whole world take it of here. The
// program itself doesn't call it.
package town

import (
	"tollgate/house"
	"tollgate/peer"
	"tollgate/port"
	"tollgate/sample"
	"tollgate/server"
	"tollgate/world"
)

const secret = "the gate's secret"

// Town keeps the house whose two ends speak with each other.
type Town struct {
	home house.House
}

// On is a world whose peer and server take such a path. They wait long, and the gate says all three times.
func (n *Town) On(t sample.Test, p house.Path) world.Config {
	t.Helper()
	a, b := n.home.On(t, p)
	return world.Config{
		Peer:   peer.Config{Name: "bob", Tls: a, Size: p.Sizes[0], Wait: 1000},
		Port:   port.Config{Secret: []byte(secret), Draw: house.Draw(5), Tries: 3, Wait: 2},
		Server: server.Config{Secret: []byte(secret), Tls: b, Size: p.Sizes[1], Sessions: 3, Answers: 4, Life: 1000},
	}
}
