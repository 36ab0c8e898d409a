package tls_test

import (
	"bytes"
	"crypto/ecdsa"
	"crypto/elliptic"
	"crypto/rand"
	"crypto/tls"
	"crypto/x509"
	"io"
	"math/big"
	"net"
	"strings"
	"testing"
	"time"

	"tollgate/api"
	"tollgate/cert"
	own "tollgate/tls"
)

// A client by a ticket of a server of Go's library. (In full that one asks for more ways of signing than the document has.)

// goServer is a server of Go's library, and a ticket of it.
type goServer struct {
	config *tls.Config
	saved  own.Saved
}

// patient is an end of a pipe whose writer never waits for the reader.
type patient struct {
	net.Conn
	queue chan []byte
}

func (p patient) Write(b []byte) (int, error) {
	p.queue <- bytes.Clone(b)
	return len(b), nil
}

func patiently(c net.Conn) net.Conn {
	p := patient{c, make(chan []byte, 1000)}
	go func() {
		for b := range p.queue {
			c.Write(b)
		}
	}()
	return p
}

func newGoServer(t *testing.T) goServer {
	t.Helper()
	key, err := ecdsa.GenerateKey(elliptic.P256(), rand.Reader)
	if err != nil {
		t.Fatal(err)
	}
	from := time.Now().Add(-time.Hour)
	b, err := x509.CreateCertificate(rand.Reader, &x509.Certificate{SerialNumber: big.NewInt(5), NotBefore: from, NotAfter: from.Add(24 * time.Hour), DNSNames: []string{"server"}},
		&x509.Certificate{}, &key.PublicKey, key)
	if err != nil {
		t.Fatal(err)
	}
	g := goServer{config: &tls.Config{MinVersion: tls.VersionTLS13, Certificates: []tls.Certificate{{Certificate: [][]byte{b}, PrivateKey: key}}}}
	g.saved = g.ticket(t)
	return g
}

// ticket is one that Go's own client gets, and its secret.
func (g goServer) ticket(t *testing.T) own.Saved {
	t.Helper()
	near, far := pipe(t)
	go func() {
		conn := tls.Server(far, g.config)
		if conn.Handshake() == nil {
			conn.Write([]byte("x"))
		}
	}()
	cache := tls.NewLRUClientSessionCache(1)
	conn := tls.Client(near, &tls.Config{InsecureSkipVerify: true, ServerName: "server", ClientSessionCache: cache})
	// The ticket comes ahead of the first byte.
	if _, err := io.ReadFull(conn, make([]byte, 1)); err != nil {
		t.Fatal(err)
	}
	session, ok := cache.Get("server")
	if !ok {
		t.Fatal("no ticket comes")
	}
	ticket, state, err := session.ResumptionState()
	if err != nil {
		t.Fatal(err)
	}
	b, err := state.Bytes()
	if err != nil {
		t.Fatal(err)
	}
	// A version, a sort, a suite and a time stand ahead of the secret and its count.
	const at = 2 + 1 + 2 + 8
	if b[at] != 32 {
		t.Fatalf("a secret of %d bytes", b[at])
	}
	return own.Saved{Ticket: ticket, Psk: [32]byte(b[at+1:]), Age: 12345, Peer: cert.Cert{Subject: "Go"}}
}

func pipe(t *testing.T) (net.Conn, net.Conn) {
	t.Helper()
	near, far := net.Pipe()
	// So that nobody waits for ever, when something is wrong.
	late := time.Now().Add(time.Minute)
	near.SetDeadline(late)
	far.SetDeadline(late)
	t.Cleanup(func() {
		near.Close()
		far.Close()
	})
	return patiently(near), patiently(far)
}

// outcome is what Go's server comes to.
type outcome struct {
	state tls.ConnectionState
	err   error
}

// recordOf is the next record that comes, but for those that are there just for others' sake.
func recordOf(t *testing.T, c net.Conn) []byte {
	t.Helper()
	rec := make([]byte, 5)
	if _, err := io.ReadFull(c, rec); err != nil {
		t.Fatal(err)
	}
	body := make([]byte, 256*int(rec[3])+int(rec[4]))
	if _, err := io.ReadFull(c, body); err != nil {
		t.Fatal(err)
	}
	if rec[0] == 20 {
		return recordOf(t, c)
	}
	return append(rec, body...)
}

// talkWithGo lets a client speak with Go's server, till it is done, or gives up.
func talkWithGo(t *testing.T, g goServer, c own.Config) (*own.Side, api.Errno, outcome) {
	t.Helper()
	near, far := pipe(t)
	ended := make(chan outcome, 1)
	go func() {
		conn := tls.Server(far, g.config)
		err := conn.Handshake()
		ended <- outcome{conn.ConnectionState(), err}
	}()
	s, said, e := own.Dial(c)
	near.Write(said)
	for e == api.OK && !s.Done() {
		said, e = s.Feed(recordOf(t, near))
		near.Write(said)
	}
	return s, e, <-ended
}

func TestTicketsOfGo(t *testing.T) {
	t.Parallel()
	g := newGoServer(t)
	for _, lazy := range []bool{false, true} {
		for seed := range 3 {
			s, e, far := talkWithGo(t, g, own.Config{Draw: drawOf(seed), Lazy: lazy, Saved: g.saved})
			if e != api.OK || far.err != nil || !s.Done() || !s.Resumed() || !far.state.DidResume || s.Peer().Subject != "Go" {
				t.Fatalf("lazy %v: error %d, done %v, resumed %v and %v: %v", lazy, e, s.Done(), s.Resumed(), far.state.DidResume, far.err)
			}
			for _, label := range []string{"EXPORTER_EAP_TLS_Key_Material", "l"} {
				for _, context := range [][]byte{nil, {13}} {
					want, err := far.state.ExportKeyingMaterial(label, context, 128)
					got, e := s.Export(label, context, 128)
					if err != nil || e != api.OK || !bytes.Equal(got, want) {
						t.Errorf("%q: %x, not %x: error %d, %v", label, got, want, e, err)
					}
				}
			}
		}
	}
}

// Go's server finds that a Mark is wrong, and says so; the client doesn't answer that.
func TestTicketsOfGoByAnotherSecret(t *testing.T) {
	t.Parallel()
	g := newGoServer(t)
	for _, lazy := range []bool{false, true} {
		c := own.Config{Draw: drawOf(1), Lazy: lazy, Saved: g.saved}
		c.Saved.Psk[0] ^= 1
		s, e, far := talkWithGo(t, g, c)
		if e != api.ErrAlert || far.err == nil || !s.Failed() {
			t.Errorf("lazy %v: error %d, failed %v: %v", lazy, e, s.Failed(), far.err)
		}
	}
}

// Go's server doesn't ask who the client is: the client gives up, by an alert that Go's server opens.
func TestAlertsToGo(t *testing.T) {
	t.Parallel()
	g := newGoServer(t)
	s, e, far := talkWithGo(t, g, own.Config{Draw: drawOf(1)})
	if e != api.ErrState || !s.Failed() || far.err == nil || !strings.Contains(far.err.Error(), "unexpected message") {
		t.Errorf("error %d, failed %v: %v", e, s.Failed(), far.err)
	}
}
