package house

import (
	"bytes"

	"tollgate/cert"
	"tollgate/tls"
)

// Copy is a Config that shares nothing with c.
func Copy(c tls.Config) tls.Config {
	c.Chain, c.Roots = copyOf(c.Chain), copyOf(c.Roots)
	c.Saved.Ticket, c.Saved.Peer.Key = bytes.Clone(c.Saved.Ticket), bytes.Clone(c.Saved.Peer.Key)
	return c
}

func copyOf(list [][]byte) [][]byte {
	var other [][]byte
	for _, b := range list {
		other = append(other, bytes.Clone(b))
	}
	return other
}

// SameSaved: is the same kept?
func SameSaved(a, b tls.Saved) bool {
	return bytes.Equal(a.Ticket, b.Ticket) && a.Psk == b.Psk && a.Age == b.Age && SameCert(a.Peer, b.Peer)
}

func SameCert(a, b cert.Cert) bool {
	return bytes.Equal(a.Key, b.Key) && a.Serial == b.Serial && a.Issuer == b.Issuer && a.Subject == b.Subject &&
		a.From == b.From && a.To == b.To && a.CA == b.CA && a.Path == b.Path && a.Uses == b.Uses
}
