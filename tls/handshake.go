package tls

import (
	"tollgate/api"
	"tollgate/cert"
	"tollgate/hash"
	"tollgate/hello"
	"tollgate/keys"
	"tollgate/mac"
	"tollgate/record"
	"tollgate/sign"
	"tollgate/trust"
)

// handshake is what an end needs till it is done.
type handshake struct {
	own    Config
	all    *hash.State // the bytes of all messages so far
	scalar [32]byte
	shares bool       // a client has sent its share
	first  *hello.Msg // of the Client that a server answered by a Retry: what must come again

	secret [32]byte
	ways   ways
	peer   cert.Cert
	sum    [32]byte // of all up to the server's Finished
}

// agreed is what an end that is done keeps.
type agreed struct {
	peer     cert.Cert
	sum      [32]byte
	exporter [32]byte

	// A client's, for another time.
	resume [32]byte
	ticket []byte
	psk    [32]byte
	age    int
}

// ways are the secrets of what is said, and of what comes.
type ways struct{ ours, theirs [32]byte }

func (s *Side) waysOf(secret [32]byte, what string, sum [32]byte) ways {
	client, server := mac.Derive(secret, "c "+what, sum), mac.Derive(secret, "s "+what, sum)
	if s.server {
		return ways{ours: server, theirs: client}
	}
	return ways{ours: client, theirs: server}
}

func (s *Side) speakBy(w ways) { s.seal, s.open = record.New(w.ours), record.New(w.theirs) }

// meet: from now on both ends seal what they say, by what they made of their shares, and of a ticket's secret.
func (s *Side) meet(psk, shared [32]byte) {
	h := s.hand
	h.secret = keys.Handshake(keys.Early(psk), shared)
	h.ways = s.waysOf(h.secret, "hs traffic", h.all.Sum())
	s.speakBy(h.ways)
}

// restart: a first Client that is answered by a Retry counts as its sum alone.
func (h *handshake) restart() {
	sum := h.all.Sum()
	h.all = hash.New()
	h.all.Put(keys.Retried(sum))
}

func (s *Side) hearCerts(m heard) ([]byte, error) {
	h, use := s.hand, cert.Server
	if s.server {
		use = cert.Client
	}
	peer, _, e := trust.Check(m.Certs, h.own.Roots, h.own.Now, use)
	if e != api.OK {
		return nil, fault(e)
	}
	h.peer = peer
	h.all.Put(m.bytes)
	s.wait(hello.Verify, (*Side).hearVerify)
	return nil, nil
}

func (s *Side) hearVerify(m heard) ([]byte, error) {
	h := s.hand
	sig, e := cert.ReadSig(m.Sig)
	if e != api.OK {
		return nil, fault(e)
	}
	if e := sign.Check(h.peer.Key, keys.Signed(!s.server, h.all.Sum()), sig); e != api.OK {
		return nil, fault(e)
	}
	h.all.Put(m.bytes)
	s.wait(hello.Finished, (*Side).hearFinished)
	return nil, nil
}

func (s *Side) hearFinished(m heard) ([]byte, error) {
	h := s.hand
	want := keys.Finish(h.ways.theirs, h.all.Sum())
	if !mac.Same(m.Mark[:], want[:]) {
		return nil, fault(api.ErrMac)
	}
	h.all.Put(m.bytes)
	if s.server {
		return s.sayTicket()
	}
	return s.sayLast()
}

// finish ends the handshake. It answers the secret of which those of tickets are made.
func (s *Side) finish() [32]byte {
	h := s.hand
	master := keys.Master(h.secret)
	s.agreed = agreed{peer: h.peer, sum: h.sum, exporter: mac.Derive(master, "exp master", h.sum)}
	s.speakBy(s.waysOf(master, "ap traffic", h.sum))
	s.stage, s.hand = done, nil
	return mac.Derive(master, "res master", h.all.Sum())
}
