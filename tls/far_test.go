package tls_test

import (
	"bytes"
	"crypto/sha256"
	"encoding/binary"
	"slices"
	"testing"

	"tollgate/api"
	"tollgate/cert"
	"tollgate/curve"
	"tollgate/gcm"
	"tollgate/hello"
	"tollgate/keys"
	"tollgate/mac"
	"tollgate/record"
	"tollgate/sign"
	"tollgate/tls"
)

// far is an end that the test plays, by the document's words: it says what it is told to, be it right or wrong.
type far struct {
	t      *testing.T
	c      tls.Config
	server bool

	all        []byte // all messages' bytes so far
	scalar     [32]byte
	share      []byte
	seal, open *record.Half

	resumed      bool
	psk          [32]byte
	peer         cert.Cert // who is at the other end
	h            [32]byte
	ours, theirs [32]byte
	sum          [32]byte // of all up to the server's Finished
	exporter     [32]byte
	resume       [32]byte
	asked        hello.Msg // the last Client that came
	atHi         int       // how many bytes were said ahead of the Server
	data         [][]byte  // what records of kind Data held
}

func newFar(t *testing.T, c tls.Config, server bool) *far {
	t.Helper()
	f := &far{t: t, c: c, server: server}
	f.scalar = drawnOf(c.Draw, "share")
	var e api.Errno
	for f.share, e = curve.Public(f.scalar); e != api.OK; f.share, e = curve.Public(f.scalar) {
		f.scalar = drawnOf(f.scalar, "share")
	}
	return f
}

func drawnOf(draw [32]byte, name string) [32]byte { return mac.Derive(draw, name, sum(nil)) }

func (f *far) now() [32]byte { return sum(f.all) }

func sum(parts ...[]byte) [32]byte { return sha256.Sum256(slices.Concat(parts...)) }

func (f *far) isOK(e api.Errno, what string) {
	f.t.Helper()
	if e != api.OK {
		f.t.Fatalf("%s: error %d", what, e)
	}
}

func (f *far) bytesOf(m hello.Msg) []byte {
	f.t.Helper()
	b, e := hello.Write(m)
	f.isOK(e, "a message is written")
	return b
}

// put is a message's bytes, which count from now on.
func (f *far) put(m hello.Msg) []byte {
	f.t.Helper()
	b := f.bytesOf(m)
	f.all = append(f.all, b...)
	return b
}

// rec is a record as this end says them now.
func (f *far) rec(kind int, parts ...[]byte) []byte {
	f.t.Helper()
	return f.padded(kind, 0, parts...)
}

func (f *far) padded(kind, pad int, parts ...[]byte) []byte {
	f.t.Helper()
	var b []byte
	var e api.Errno
	if f.seal == nil {
		b, e = record.Bare(kind, slices.Concat(parts...))
	} else {
		b, e = f.seal.Seal(kind, slices.Concat(parts...), pad)
	}
	f.isOK(e, "a record")
	return b
}

func (f *far) say(m hello.Msg) []byte {
	f.t.Helper()
	return f.rec(record.Handshake, f.put(m))
}

// hear takes what the other end said: its messages.
func (f *far) hear(b []byte) []hello.Msg {
	f.t.Helper()
	var list []hello.Msg
	for len(b) > 0 {
		rec, rest, e := record.Cut(b)
		f.isOK(e, "a record is cut off")
		kind, body := f.within(rec)
		if kind == record.Data {
			f.data = append(f.data, body)
			body = nil
		} else if kind != record.Handshake {
			f.t.Fatalf("a record of kind %d: %x", kind, body)
		}
		for len(body) > 0 {
			m, n, e := hello.Read(body)
			f.isOK(e, "a message is read")
			f.heard(m, body[:n])
			list = append(list, m)
			body = body[n:]
		}
		b = rest
	}
	return list
}

func (f *far) within(rec []byte) (int, []byte) {
	f.t.Helper()
	kind, b, e := record.Body(rec)
	if f.open != nil {
		kind, b, e = f.open.Open(rec)
	}
	f.isOK(e, "a record is opened")
	return kind, b
}

func (f *far) heard(m hello.Msg, b []byte) {
	f.t.Helper()
	if m.Retry {
		f.restart()
	}
	f.all = append(f.all, b...)
	if m.Kind == hello.Client {
		f.asked = m
	}
	if m.Kind == hello.Server && !m.Retry {
		f.resumed = m.Psk
		if m.Psk {
			f.psk, f.peer = f.c.Saved.Psk, f.c.Saved.Peer
		}
		f.meet(m.Share)
	}
	if m.Kind == hello.Certs && len(m.Certs) > 0 {
		f.peer, _ = cert.Read(m.Certs[0])
	}
	if m.Kind == hello.Finished && !f.server {
		f.sum = f.now()
	}
}

// restart: a first Client counts as its sum.
func (f *far) restart() {
	first := f.now()
	f.all = slices.Concat([]byte{0xFE, 0, 0, 0x20}, first[:])
}

// meet: both shares are known.
func (f *far) meet(share []byte) {
	f.t.Helper()
	x, e := curve.Shared(f.scalar, share)
	f.isOK(e, "a secret is shared")
	f.h = keys.Handshake(keys.Early(f.psk), x)
	f.speak(f.h, "hs traffic", f.now())
}

func (f *far) speak(secret [32]byte, what string, sum [32]byte) {
	f.ours, f.theirs = mac.Derive(secret, "c "+what, sum), mac.Derive(secret, "s "+what, sum)
	if f.server {
		f.ours, f.theirs = f.theirs, f.ours
	}
	f.seal, f.open = record.New(f.ours), record.New(f.theirs)
}

// done: both have said their Finished.
func (f *far) done() {
	m := keys.Master(f.h)
	f.speak(m, "ap traffic", f.sum)
	f.exporter, f.resume = mac.Derive(m, "exp master", f.sum), mac.Derive(m, "res master", f.now())
}

// The messages of an end, as they must be said next.

func (f *far) client(share bool) hello.Msg {
	f.t.Helper()
	m := hello.Msg{Kind: hello.Client, Random: drawnOf(f.c.Draw, "random")}
	if share {
		m.Share = f.share
	}
	if len(f.c.Saved.Ticket) > 0 {
		m.Psk, m.Ticket, m.Age = true, f.c.Saved.Ticket, f.c.Saved.Age
	}
	return f.marked(m)
}

// marked is a Client with its mark anew, if it shows a ticket.
func (f *far) marked(m hello.Msg) hello.Msg {
	f.t.Helper()
	if m.Psk {
		b := f.bytesOf(m)
		m.Mark = keys.Binder(keys.Early(f.c.Saved.Psk), sum(f.all, b[:len(b)-35]))
	}
	return m
}

func (f *far) hi(session []byte) hello.Msg {
	return hello.Msg{Kind: hello.Server, Random: drawnOf(f.c.Draw, "random"), Session: session, Share: f.share, Psk: f.resumed}
}

func (f *far) certs() hello.Msg { return hello.Msg{Kind: hello.Certs, Certs: f.c.Chain} }

func (f *far) verify() hello.Msg {
	f.t.Helper()
	sig, e := sign.Make(f.c.Secret, keys.Signed(f.server, f.now()))
	f.isOK(e, "a signature")
	return hello.Msg{Kind: hello.Verify, Sig: cert.WriteSig(sig)}
}

func (f *far) finished() hello.Msg {
	return hello.Msg{Kind: hello.Finished, Mark: keys.Finish(f.ours, f.now())}
}

// last is what an end's flight ends with.
func (f *far) last() []byte {
	f.t.Helper()
	var b []byte
	if !f.resumed {
		b = append(b, f.put(f.certs())...)
		b = append(b, f.put(f.verify())...)
	}
	return append(b, f.put(f.finished())...)
}

// sayHi is a Server that answers the last Client, behind which all is sealed.
func (f *far) sayHi() []byte {
	f.t.Helper()
	f.atHi = len(f.all)
	said := f.say(f.hi(f.asked.Session))
	f.meet(f.asked.Share)
	return said
}

// sayRetry answers the last Client by a Retry.
func (f *far) sayRetry() []byte {
	f.t.Helper()
	f.restart()
	return f.say(hello.Msg{Kind: hello.Server, Retry: true, Session: f.asked.Session})
}

// begin is a server's flight that answers the last Client; what counts of its ticket is known.
func (f *far) begin() []byte {
	f.t.Helper()
	said := f.sayHi()
	b := f.put(hello.Msg{Kind: hello.Extensions})
	if !f.resumed {
		b = append(b, f.put(hello.Msg{Kind: hello.Request})...)
	}
	b = append(b, f.last()...)
	f.sum = f.now()
	return append(said, f.rec(record.Handshake, b)...)
}

// end is what a server says when it is done.
func (f *far) end() []byte {
	f.t.Helper()
	f.done()
	return append(f.rec(record.Handshake, f.bytesOf(f.ticket())), f.rec(record.Data, []byte{0})...)
}

func (f *far) ticket() hello.Msg {
	age, nonce := drawnOf(f.c.Draw, "age"), drawnOf(f.c.Draw, "nonce")
	ticket := sealedTicket(f.t, f.c.Tickets, nonce[:12], f.again([]byte{0}), uint64(f.c.Now+1000), f.peer.Subject)
	return hello.Msg{Kind: hello.Ticket, Life: 1000, Age: int(binary.BigEndian.Uint32(age[:4])), Nonce: []byte{0}, Ticket: ticket}
}

func sealedTicket(t *testing.T, key [32]byte, nonce []byte, secret [32]byte, until uint64, subject string) []byte {
	t.Helper()
	return sealedBytes(t, key, nonce, slices.Concat(secret[:], binary.BigEndian.AppendUint64(nil, until), []byte(subject)))
}

func sealedBytes(t *testing.T, key [32]byte, nonce, inside []byte) []byte {
	t.Helper()
	box, e := gcm.New(key[:])
	if e != api.OK {
		t.Fatal("no box: error ", e)
	}
	return append(bytes.Clone(nonce), box.Seal([12]byte(nonce), inside, nil)...)
}

// counts takes a Client's ticket, if it counts: the test knows what is in it.
func (f *far) counts(secret [32]byte, subject string) {
	f.resumed, f.psk, f.peer = true, secret, cert.Cert{Subject: subject}
}

// again is the secret of a ticket.
func (f *far) again(nonce []byte) [32]byte { return keys.Again(f.resume, nonce) }

func (f *far) exports(label string, context []byte, n int) []byte {
	f.t.Helper()
	b, e := keys.Export(f.exporter, label, context, n)
	f.isOK(e, "bytes are exported")
	return b
}

// talk is what two right ends say to each other, and what they come to.
type talk struct {
	flights [][]byte
	c, s    *far
	saved   tls.Saved
}

// wordsOf is the talk of a client and a server. The ticket that the client shows, if it does, counts.
func wordsOf(t *testing.T, a, b tls.Config) talk {
	t.Helper()
	x := talk{c: newFar(t, a, false), s: newFar(t, b, true)}
	say := func(b []byte) []byte {
		x.flights = append(x.flights, b)
		return b
	}
	x.s.hear(say(x.c.say(x.c.client(!a.Lazy))))
	if a.Lazy {
		x.c.hear(say(x.s.sayRetry()))
		x.s.hear(say(x.c.say(x.c.client(true))))
	}
	if len(a.Saved.Ticket) > 0 {
		x.s.counts(a.Saved.Psk, read(t, clientCert(t)).Subject)
	}
	x.c.hear(say(x.s.begin()))
	x.s.hear(say(x.c.rec(record.Handshake, x.c.last())))
	x.c.done()
	end := x.c.hear(say(x.s.end()))[0]
	x.saved = tls.Saved{Ticket: end.Ticket, Psk: x.c.again(end.Nonce), Age: end.Age, Peer: x.c.peer}
	return x
}
