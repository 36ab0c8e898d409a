package peer

import (
	"bytes"

	"tollgate/tls"
)

// copyOf is a Config that nobody else can change.
func copyOf(c tls.Config) tls.Config {
	c.Chain, c.Roots = copyOfList(c.Chain), copyOfList(c.Roots)
	c.Saved.Ticket, c.Saved.Peer.Key = bytes.Clone(c.Saved.Ticket), bytes.Clone(c.Saved.Peer.Key)
	return c
}

func copyOfList(list [][]byte) [][]byte {
	var other [][]byte
	for _, b := range list {
		other = append(other, bytes.Clone(b))
	}
	return other
}
