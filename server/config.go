package server

import (
	"bytes"

	"tollgate/tls"
)

// inRange: is n 1 to most?
func inRange(n, most int) bool { return 1 <= n && n <= most }

// copyOf is what of a Config a server needs, so that nobody else can change it: what was kept is a client's.
func copyOf(c Config) Config {
	c.Secret = bytes.Clone(c.Secret)
	c.Tls.Chain, c.Tls.Roots, c.Tls.Saved = copyOfList(c.Tls.Chain), copyOfList(c.Tls.Roots), tls.Saved{}
	return c
}

func copyOfList(list [][]byte) [][]byte {
	var other [][]byte
	for _, b := range list {
		other = append(other, bytes.Clone(b))
	}
	return other
}
