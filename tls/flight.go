package tls

import (
	"tollgate/api"
	"tollgate/cert"
	"tollgate/hello"
	"tollgate/keys"
	"tollgate/record"
	"tollgate/sign"
)

// flight collects messages that are said at once. Behind what can't be said it takes nothing more.
type flight struct {
	side  *Side
	bytes []byte
	err   error
}

func (s *Side) newFlight() *flight { return &flight{side: s} }

// say puts a message behind the others; it counts among all that was said.
func (f *flight) say(m hello.Msg) {
	b, e := hello.Write(m)
	f.isOK(e)
	if f.err == nil {
		f.bytes = append(f.bytes, b...)
		f.side.hand.all.Put(b)
	}
}

func (f *flight) isOK(e api.Errno) {
	if f.err == nil && e != api.OK {
		f.err = fault(e)
	}
}

// close says what both ends' flights end with: whose they are, unless a ticket tells it, and Finished.
func (f *flight) close() {
	if !f.side.resumed {
		f.prove()
	}
	h := f.side.hand
	f.say(hello.Msg{Kind: hello.Finished, Mark: keys.Finish(h.ways.ours, h.all.Sum())})
}

func (f *flight) prove() {
	h := f.side.hand
	f.say(hello.Msg{Kind: hello.Certs, Certs: h.own.Chain})
	sig, e := sign.Make(h.own.Secret, keys.Signed(f.side.server, h.all.Sum()))
	f.isOK(e)
	f.say(hello.Msg{Kind: hello.Verify, Sig: cert.WriteSig(sig)})
}

// record is one that holds all of these messages.
func (f *flight) record() ([]byte, error) {
	if f.err != nil {
		return nil, f.err
	}
	return f.side.record(record.Handshake, f.bytes)
}
