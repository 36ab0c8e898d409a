package tls_test

import (
	"bytes"
	"fmt"
	"sync"
	"testing"

	"tollgate/api"
	"tollgate/cert"
	"tollgate/curve"
	"tollgate/sample"
	"tollgate/tls"
)

// Whose secrets these are, by number.
const (
	rootNumber   = 1
	serverNumber = 2
	clientNumber = 3
	middleNumber = 4 // and the numbers behind it
	stranger     = 99
)

func secretOf(number int) [32]byte { return [32]byte{30: 7, 31: byte(number)} }

func drawOf(seed int) [32]byte { return [32]byte(sample.Filled(32, seed)) }

// refused are draws whose first scalar curve.Public refuses. They were found by search.
func refused() [][32]byte {
	return [][32]byte{
		{4: 0x10, 5: 0x10, 6: 0x81, 7: 0xBA, 31: 4},
		{4: 0x25, 5: 0xA9, 6: 0xD2, 7: 0x51, 31: 1},
		{4: 0x27, 5: 0xC8, 6: 0x5A, 7: 0x32, 31: 4},
	}
}

var (
	madeLock sync.Mutex
	made     = map[string][]byte{}
)

// certOf is a certificate with the key of one, signed by another. It is kept, for making it takes its time.
func certOf(t *testing.T, c cert.Cert, own, by int) []byte {
	t.Helper()
	if c.Serial == 0 {
		c.Serial = own
	}
	if c.To == 0 {
		c.To = 100
	}
	madeLock.Lock()
	defer madeLock.Unlock()
	what := fmt.Sprint(c, own, by)
	if made[what] == nil {
		key, e := curve.Public(secretOf(own))
		if e != api.OK {
			t.Fatal("no public bytes: error ", e)
		}
		c.Key = key
		b, e := cert.Make(c, secretOf(by))
		if e != api.OK {
			t.Fatalf("%s isn't made: error %d", what, e)
		}
		made[what] = b
	}
	return bytes.Clone(made[what])
}

func rootCert(t *testing.T) []byte {
	t.Helper()
	return certOf(t, cert.Cert{Issuer: "root", Subject: "root", CA: true, Path: 5, Uses: cert.Sign | cert.Issue}, rootNumber, rootNumber)
}

func serverCert(t *testing.T) []byte {
	t.Helper()
	return certOf(t, cert.Cert{Issuer: "root", Subject: "server", Uses: cert.Sign | cert.Server}, serverNumber, rootNumber)
}

func clientCert(t *testing.T) []byte {
	t.Helper()
	return certOf(t, cert.Cert{Issuer: "root", Subject: "client", Uses: cert.Sign | cert.Client}, clientNumber, rootNumber)
}

// longChain is one of n certificates that leads to the root.
func longChain(t *testing.T, n int, subject string, uses, own int) [][]byte {
	t.Helper()
	var list [][]byte
	for i := range n {
		c := cert.Cert{Issuer: fmt.Sprint("middle ", i), Subject: fmt.Sprint("middle ", i-1), CA: true, Path: 5, Uses: cert.Issue}
		whose, by := middleNumber+i-1, middleNumber+i
		if i == 0 {
			c.Subject, c.CA, c.Path, c.Uses, whose = subject, false, 0, uses, own
		}
		if i == n-1 {
			c.Issuer, by = "root", rootNumber
		}
		list = append(list, certOf(t, c, whose, by))
	}
	return list
}

// house is a client and a server that trust each other.
func house(t *testing.T) (tls.Config, tls.Config) {
	t.Helper()
	roots := [][]byte{rootCert(t)}
	a := tls.Config{Chain: [][]byte{clientCert(t)}, Secret: secretOf(clientNumber), Roots: roots, Now: 50, Draw: drawOf(1)}
	b := tls.Config{Chain: [][]byte{serverCert(t)}, Secret: secretOf(serverNumber), Roots: roots, Now: 50, Draw: drawOf(2), Tickets: drawOf(3)}
	return a, b
}

var (
	keptLock sync.Mutex
	kept     *tls.Saved
)

// saved is what a client keeps of a talk; the server's Now is 50.
func saved(t *testing.T) tls.Saved {
	t.Helper()
	keptLock.Lock()
	defer keptLock.Unlock()
	if kept == nil {
		a, b := house(t)
		v := wordsOf(t, a, b).saved
		kept = &v
	}
	v := *kept
	v.Ticket, v.Peer.Key = bytes.Clone(v.Ticket), bytes.Clone(v.Peer.Key)
	return v
}

func sameCert(a, b cert.Cert) bool {
	return a.Serial == b.Serial && a.Issuer == b.Issuer && a.Subject == b.Subject && a.From == b.From && a.To == b.To &&
		bytes.Equal(a.Key, b.Key) && a.CA == b.CA && a.Path == b.Path && a.Uses == b.Uses
}

func sameSaved(a, b tls.Saved) bool {
	return bytes.Equal(a.Ticket, b.Ticket) && a.Psk == b.Psk && a.Age == b.Age && sameCert(a.Peer, b.Peer)
}

func read(t *testing.T, b []byte) cert.Cert {
	t.Helper()
	c, e := cert.Read(b)
	if e != api.OK {
		t.Fatal("a certificate isn't read: error ", e)
	}
	return c
}
