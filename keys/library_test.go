package keys_test

import (
	"bytes"
	"crypto/ecdh"
	"crypto/ecdsa"
	"crypto/elliptic"
	"crypto/rand"
	"crypto/tls"
	"crypto/x509"
	"math/big"
	"net"
	"testing"
	"time"

	"tollgate/api"
	"tollgate/hash"
	"tollgate/hello"
	"tollgate/keys"
	"tollgate/mac"
	"tollgate/record"
	"tollgate/sample"
)

// A handshake with Go's library: a server of it, to which the messages of hello are said, with the secrets of keys.

// other is what Go's server comes to.
type other struct {
	state tls.ConnectionState
	err   error
}

// talk is what a client has with Go's server.
type talk struct {
	t          *testing.T
	conn       net.Conn
	bits       chan []byte // what comes, in bits, as they come
	raw        []byte      // bits that weren't taken yet
	came       []byte      // messages that came and weren't heard yet
	all        []byte      // the bytes of all messages so far
	seal, open *record.Half
	share      *ecdh.PrivateKey
	key        *ecdsa.PrivateKey // both ends sign by it
	chain      [][]byte
	other      chan other
}

func begun(t *testing.T, auth tls.ClientAuthType) *talk {
	t.Helper()
	near, far := net.Pipe()
	// So that nobody waits for ever, when a message is wrong.
	late := time.Now().Add(time.Minute)
	near.SetDeadline(late)
	far.SetDeadline(late)
	t.Cleanup(func() {
		near.Close()
		far.Close()
	})
	x := &talk{t: t, conn: near, bits: make(chan []byte, 1000), other: make(chan other, 1)}
	go x.listen()
	var err error
	if x.share, err = ecdh.P256().NewPrivateKey(sample.Filled(32, 1)); err != nil {
		t.Fatal(err)
	}
	if x.key, err = ecdsa.ParseRawPrivateKey(elliptic.P256(), sample.Filled(32, 2)); err != nil {
		t.Fatal(err)
	}
	from := time.Unix(1<<30, 0)
	b, err := x509.CreateCertificate(rand.Reader, &x509.Certificate{SerialNumber: big.NewInt(5), NotBefore: from, NotAfter: from}, &x509.Certificate{}, &x.key.PublicKey, x.key)
	if err != nil {
		t.Fatal(err)
	}
	x.chain = [][]byte{b, bytes.Clone(b)}
	config := &tls.Config{MinVersion: tls.VersionTLS13, ClientAuth: auth, SessionTicketsDisabled: true,
		Certificates: []tls.Certificate{{Certificate: x.chain, PrivateKey: x.key}}}
	go func() {
		conn := tls.Server(far, config)
		err := conn.Handshake()
		if err != nil {
			far.Close()
		}
		x.other <- other{conn.ConnectionState(), err}
	}()
	return x
}

// listen takes off what comes at once, for the server waits till that is done.
func (x *talk) listen() {
	defer close(x.bits)
	for {
		b := make([]byte, 4096)
		n, err := x.conn.Read(b)
		x.bits <- b[:n]
		if err != nil {
			return
		}
	}
}

// take is the next n bytes that came.
func (x *talk) take(n int) []byte {
	x.t.Helper()
	for len(x.raw) < n {
		b, ok := <-x.bits
		if !ok {
			x.t.Fatal("nothing comes any more")
		}
		x.raw = append(x.raw, b...)
	}
	b := bytes.Clone(x.raw[:n])
	x.raw = x.raw[n:]
	return b
}

func (x *talk) isOK(e api.Errno, what string) {
	x.t.Helper()
	if e != api.OK {
		x.t.Fatalf("%s: error %d", what, e)
	}
}

func (x *talk) sum() [32]byte { return hash.Of(x.all) }

func (x *talk) say(m hello.Msg) {
	x.t.Helper()
	b, e := hello.Write(m)
	x.isOK(e, "a message is written")
	x.all = append(x.all, b...)
	var rec []byte
	if x.seal == nil {
		rec, e = record.Bare(record.Handshake, b)
	} else {
		rec, e = x.seal.Seal(record.Handshake, b, 0)
	}
	x.isOK(e, "a record")
	if _, err := x.conn.Write(rec); err != nil {
		x.t.Fatal(err)
	}
}

// record is what the next record holds; those of a kind that is just there for others' sake are passed over.
func (x *talk) record() []byte {
	x.t.Helper()
	rec := x.take(5)
	rec = append(rec, x.take(256*int(rec[3])+int(rec[4]))...)
	if rec[0] == 20 {
		return nil
	}
	how := record.Body
	if x.open != nil {
		how = x.open.Open
	}
	kind, b, e := how(rec)
	x.isOK(e, "a record is opened")
	if kind != record.Handshake {
		x.t.Fatalf("a record of kind %d: %x", kind, b)
	}
	return b
}

// bytes are those of the next message.
func (x *talk) bytes() []byte {
	x.t.Helper()
	for {
		if len(x.came) >= 4 {
			if n := 4 + 256*int(x.came[2]) + int(x.came[3]); len(x.came) >= n {
				b := x.came[:n]
				x.came = x.came[n:]
				x.all = append(x.all, b...)
				return b
			}
		}
		x.came = append(x.came, x.record()...)
	}
}

func (x *talk) hear(kind int) hello.Msg {
	x.t.Helper()
	b := x.bytes()
	m, n, e := hello.Read(b)
	if e != api.OK || n != len(b) || m.Kind != kind {
		x.t.Fatalf("%x is read as %v, not one of kind %d: error %d", b, m, kind, e)
	}
	if again, e := hello.Write(m); e != api.OK || !bytes.Equal(again, b) {
		x.t.Fatalf("%x is written as %x: error %d", b, again, e)
	}
	return m
}

// begin says a Client, and another one, if the server asks for its share, and hears the Server.
func (x *talk) begin(lazy bool) hello.Msg {
	x.t.Helper()
	client := hello.Msg{Kind: hello.Client, Random: sum(8), Session: sample.Filled(32, 9)}
	if lazy {
		x.say(client)
		x.all = keys.Retried(x.sum())
		if m := x.hear(hello.Server); !m.Retry || !bytes.Equal(m.Session, client.Session) {
			x.t.Fatalf("no Retry: %v", m)
		}
	}
	client.Share = x.share.PublicKey().Bytes()
	x.say(client)
	m := x.hear(hello.Server)
	if m.Retry || m.Psk || !bytes.Equal(m.Session, client.Session) {
		x.t.Fatalf("no Server: %v", m)
	}
	return m
}

// shared is what both make of their shares.
func (x *talk) shared(public []byte) [32]byte {
	x.t.Helper()
	key, err := ecdh.P256().NewPublicKey(public)
	if err != nil {
		x.t.Fatal(err)
	}
	b, err := x.share.ECDH(key)
	if err != nil {
		x.t.Fatal(err)
	}
	return [32]byte(b)
}

// signed hears the server's certificates, and that it signed all so far.
func (x *talk) signed() {
	x.t.Helper()
	if m := x.hear(hello.Certs); len(m.Certs) != 2 || !bytes.Equal(m.Certs[0], x.chain[0]) || !bytes.Equal(m.Certs[1], x.chain[1]) {
		x.t.Errorf("other certificates: %v", m)
	}
	s := keys.Signed(true, x.sum())
	if m := x.hear(hello.Verify); !ecdsa.VerifyASN1(&x.key.PublicKey, s[:], m.Sig) {
		x.t.Error("it signed something else")
	}
}

// sign says the client's own certificates, and signs all so far.
func (x *talk) sign() {
	x.t.Helper()
	x.say(hello.Msg{Kind: hello.Certs, Certs: x.chain})
	s := keys.Signed(false, x.sum())
	sig, err := ecdsa.SignASN1(rand.Reader, x.key, s[:])
	if err != nil {
		x.t.Fatal(err)
	}
	x.say(hello.Msg{Kind: hello.Verify, Sig: sig})
}

// isExportedTo: the server exports the same bytes.
func (x *talk) isExportedTo(far other, exporter [32]byte) {
	x.t.Helper()
	for _, label := range []string{"EXPORTER_EAP_TLS_Key_Material", "x", ""} {
		for _, context := range [][]byte{nil, {13}, sample.Filled(300, 1)} {
			for _, n := range []int{1, 32, 128, 1000} {
				want, err := far.state.ExportKeyingMaterial(label, context, n)
				got, e := keys.Export(exporter, label, context, n)
				if err != nil || e != api.OK || !bytes.Equal(got, want) {
					x.t.Errorf("%q, %d bytes: %.40x, not %.40x: error %d, %v", label, n, got, want, e, err)
				}
			}
		}
	}
}

func handshakes(t *testing.T, lazy bool, auth tls.ClientAuthType) {
	x := begun(t, auth)
	server := x.begin(lazy)
	secret := keys.Handshake(keys.Early([32]byte{}), x.shared(server.Share))
	s, c := mac.Derive(secret, "s hs traffic", x.sum()), mac.Derive(secret, "c hs traffic", x.sum())
	x.open, x.seal = record.New(s), record.New(c)
	x.hear(hello.Extensions)
	if auth != tls.NoClientCert {
		// It has more ways of signing than the document, so it isn't read.
		if b := x.bytes(); b[0] != hello.Request {
			t.Fatalf("no Request: %x", b)
		}
	}
	x.signed()
	want := keys.Finish(s, x.sum())
	is(t, "the server's Finished", x.hear(hello.Finished).Mark, want)
	exporter := mac.Derive(keys.Master(secret), "exp master", x.sum())
	if auth != tls.NoClientCert {
		x.sign()
	}
	x.say(hello.Msg{Kind: hello.Finished, Mark: keys.Finish(c, x.sum())})
	far := <-x.other
	if far.err != nil {
		t.Fatal(far.err)
	}
	x.isExportedTo(far, exporter)
}

func TestHandshakesWithGo(t *testing.T) {
	for _, auth := range []tls.ClientAuthType{tls.NoClientCert, tls.RequireAnyClientCert} {
		handshakes(t, false, auth)
		handshakes(t, true, auth)
	}
}
