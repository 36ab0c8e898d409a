package method_test

import (
	"bytes"
	"fmt"
	"sync"
	"testing"

	"tollgate/api"
	"tollgate/cert"
	"tollgate/curve"
	"tollgate/sample"
	"tollgate/tls"
)

// Whose secrets these are, by number.
const (
	rootNumber = 1 + iota
	serverNumber
	clientNumber
)

func secretOf(number int) [32]byte { return [32]byte{30: 9, 31: byte(number)} }

func drawOf(seed int) [32]byte { return [32]byte(sample.Filled(32, seed)) }

var (
	madeLock sync.Mutex
	made     = map[string][]byte{}
)

// certOf is a certificate of one by the root. It is kept, for making it takes its time.
func certOf(t *testing.T, c cert.Cert, own int) []byte {
	t.Helper()
	c.Serial, c.Issuer, c.To = own, "root", 100
	madeLock.Lock()
	defer madeLock.Unlock()
	what := fmt.Sprint(c, own)
	if made[what] == nil {
		var e, f api.Errno
		c.Key, e = curve.Public(secretOf(own))
		made[what], f = cert.Make(c, secretOf(rootNumber))
		if e != api.OK || f != api.OK {
			t.Fatalf("%s isn't made: errors %d, %d", what, e, f)
		}
	}
	return bytes.Clone(made[what])
}

// house is a client and a server that trust each other.
func house(t *testing.T) (tls.Config, tls.Config) {
	t.Helper()
	root := certOf(t, cert.Cert{Subject: "root", CA: true, Path: 5, Uses: cert.Sign | cert.Issue}, rootNumber)
	server := certOf(t, cert.Cert{Subject: "server", Uses: cert.Sign | cert.Server}, serverNumber)
	client := certOf(t, cert.Cert{Subject: "client", Uses: cert.Sign | cert.Client}, clientNumber)
	a := tls.Config{Chain: [][]byte{client}, Secret: secretOf(clientNumber), Roots: [][]byte{root}, Now: 50, Draw: drawOf(1)}
	b := tls.Config{Chain: [][]byte{server}, Secret: secretOf(serverNumber), Roots: [][]byte{root}, Now: 50, Draw: drawOf(2), Tickets: drawOf(3)}
	return a, b
}

var (
	keptLock sync.Mutex
	kept     *tls.Saved
)

// saved is what a client keeps of a talk with the house's server.
func saved(t *testing.T) tls.Saved {
	t.Helper()
	keptLock.Lock()
	defer keptLock.Unlock()
	if kept == nil {
		a, b := house(t)
		p, s := newWords(a, 4000, false), newWords(b, 4000, true)
		answerEachOther(p, s)
		v, ok := p.side.Saved()
		if !ok {
			t.Fatal("nothing is kept")
		}
		kept = &v
	}
	v := *kept
	v.Ticket, v.Peer.Key = bytes.Clone(v.Ticket), bytes.Clone(v.Peer.Key)
	return v
}

// path is a way that two ends can take to be done.
type path struct {
	lazy, resumed bool
	sizes         [2]int // the peer's, the server's
}

func (p path) String() string {
	return fmt.Sprintf("lazy %v, resumed %v, sizes %v", p.lazy, p.resumed, p.sizes)
}

func (p path) house(t *testing.T) (tls.Config, tls.Config) {
	t.Helper()
	a, b := house(t)
	a.Lazy = p.lazy
	if p.resumed {
		a.Saved, b.Draw = saved(t), drawOf(4)
	}
	return a, b
}

func paths(sizes ...[2]int) []path {
	var list []path
	for _, s := range sizes {
		list = append(list, path{false, false, s}, path{true, false, s}, path{false, true, s}, path{true, true, s})
	}
	return list
}

func sameSaved(a, b tls.Saved) bool {
	return bytes.Equal(a.Ticket, b.Ticket) && a.Psk == b.Psk && a.Age == b.Age && a.Peer.Subject == b.Peer.Subject && bytes.Equal(a.Peer.Key, b.Peer.Key)
}
