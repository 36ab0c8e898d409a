// Package house has a root, and a client and a server by its word: the tests of all packages that let such two speak take
// them of it. The program itself doesn't call it.
package house

import (
	"strconv"
	"sync"

	"tollgate/api"
	"tollgate/cert"
	"tollgate/curve"
	"tollgate/method"
	"tollgate/piece"
	"tollgate/sample"
	"tollgate/tls"
)

// Whose secrets these are, by number.
const (
	Root = 1 + iota
	Server
	Client
)

// Now is the time; all certificates count from 0 to Until.
const (
	Now   = 50
	Until = 100
)

const bigSize = 4000

// House keeps what it has made, for making it takes its time.
type House struct {
	once           sync.Once
	client, server tls.Config
	saved          tls.Saved
}

// Ends are a client and a server that trust each other.
func (h *House) Ends(t sample.Test) (tls.Config, tls.Config) {
	t.Helper()
	h.once.Do(func() { h.build(t) })
	return Copy(h.client), Copy(h.server)
}

// Path is a way that two ends can take to be done.
type Path struct {
	Lazy, Resumed bool
	Sizes         [2]int // of pieces: the client's, the server's
}

func (p Path) String() string {
	return "lazy " + strconv.FormatBool(p.Lazy) + ", resumed " + strconv.FormatBool(p.Resumed) +
		", sizes " + strconv.Itoa(p.Sizes[0]) + " and " + strconv.Itoa(p.Sizes[1])
}

// Paths are all that there are with such sizes.
func Paths(sizes ...[2]int) []Path {
	var list []Path
	for _, s := range sizes {
		list = append(list, Path{false, false, s}, Path{true, false, s}, Path{false, true, s}, Path{true, true, s})
	}
	return list
}

// On are the ends that take such a path.
func (h *House) On(t sample.Test, p Path) (tls.Config, tls.Config) {
	t.Helper()
	a, b := h.Ends(t)
	a.Lazy = p.Lazy
	if p.Resumed {
		kept := Copy(tls.Config{Saved: h.saved})
		a.Saved, b.Draw = kept.Saved, Draw(4)
	}
	return a, b
}

func (h *House) build(t sample.Test) {
	t.Helper()
	roots := [][]byte{Cert(t, cert.Cert{Subject: "root", CA: true, Path: 5, Uses: cert.Sign | cert.Issue}, Root)}
	client := Cert(t, cert.Cert{Subject: "client", Uses: cert.Sign | cert.Client}, Client)
	server := Cert(t, cert.Cert{Subject: "server", Uses: cert.Sign | cert.Server}, Server)
	h.client = tls.Config{Chain: [][]byte{client}, Secret: Secret(Client), Roots: roots, Now: Now, Draw: Draw(1)}
	h.server = tls.Config{Chain: [][]byte{server}, Secret: Secret(Server), Roots: roots, Now: Now, Draw: Draw(2), Tickets: Draw(3)}
	h.saved = savedOf(t, h.client, h.server)
}

func Secret(number int) [32]byte { return [32]byte{30: 9, 31: byte(number)} }

func Draw(seed int) [32]byte { return [32]byte(sample.Filled(32, seed)) }

// Cert is a certificate of one, by the root's word.
func Cert(t sample.Test, c cert.Cert, own int) []byte {
	t.Helper()
	key, e := curve.Public(Secret(own))
	isOK(t, c.Subject+"'s public bytes", e)
	c.Serial, c.Issuer, c.To, c.Key = own, "root", Until, key
	b, e := cert.Make(c, Secret(Root))
	isOK(t, c.Subject+"'s certificate", e)
	return b
}

// savedOf is what a client keeps of a talk with a server.
func savedOf(t sample.Test, a, b tls.Config) tls.Saved {
	t.Helper()
	client, e := method.Peer(a, bigSize)
	isOK(t, "a client", e)
	server, e := method.Server(b, bigSize)
	isOK(t, "a server", e)
	to, other := client, server
	for next := piece.Start(); len(next) > 0; to, other = other, to {
		next, e = to.Step(next)
		isOK(t, "a step", e)
	}
	v, ok := client.Saved()
	if !ok {
		t.Errorf("nothing is kept")
	}
	return v
}

func isOK(t sample.Test, what string, e api.Errno) {
	t.Helper()
	if e != api.OK {
		t.Errorf("%s: error %d", what, e)
	}
}
