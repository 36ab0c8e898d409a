package tls

import (
	"tollgate/api"
	"tollgate/gcm"
	"tollgate/hash"
	"tollgate/hello"
	"tollgate/keys"
)

const (
	nonceSize  = 12
	secretSize = 32
	untilSize  = 8
	ticketLife = 1000
)

// pass is what a server's ticket holds: by it alone the server knows a client again.
type pass struct {
	secret  [secretSize]byte
	until   int
	subject string
}

// ticket is a pass as nobody but its server reads it.
func (p pass) ticket(key [32]byte, nonce [nonceSize]byte) []byte {
	held := append([]byte(nil), p.secret[:]...)
	for shift := 8*untilSize - 8; shift >= 0; shift -= 8 {
		held = append(held, byte(uint64(p.until)>>shift))
	}
	held = append(held, p.subject...)
	box, _ := gcm.New(key[:])
	return append(nonce[:], box.Seal(nonce, held, nil)...)
}

// passOf is what a ticket holds, if it is one.
func passOf(key [32]byte, ticket []byte) (pass, bool) {
	if len(ticket) < nonceSize {
		return pass{}, false
	}
	box, _ := gcm.New(key[:])
	held, e := box.Open([nonceSize]byte(ticket[:nonceSize]), ticket[nonceSize:], nil)
	if e != api.OK || len(held) <= secretSize+untilSize {
		return pass{}, false
	}
	p := pass{secret: [secretSize]byte(held[:secretSize]), subject: string(held[secretSize+untilSize:])}
	var until uint64
	for _, b := range held[secretSize : secretSize+untilSize] {
		until = until<<8 | uint64(b)
	}
	p.until = int(until)
	return p, true
}

// markOf is the mark of a Client that shows a ticket: it shows that the client has the ticket's secret, too. What was
// said ahead of the Client is all.
func markOf(all *hash.State, secret [32]byte, client []byte) [32]byte {
	said := all.Copy()
	said.Put(hello.Short(client))
	return keys.Binder(keys.Early(secret), said.Sum())
}
