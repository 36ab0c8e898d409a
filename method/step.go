package method

import (
	"bytes"

	"tollgate/api"
	"tollgate/piece"
	"tollgate/tls"
)

// stage is how far an end is.
type stage int

const (
	unmade stage = iota // neither Peer nor Server made it
	talking
	done
	failed
)

func newMethod(size int) (*Method, api.Errno) {
	// Split alone knows which sizes there are.
	if _, e := piece.Split(nil, size); e != api.OK {
		return nil, e
	}
	return &Method{stage: talking, size: size, came: piece.New()}, api.OK
}

// empty: a method that neither Peer nor Server made counts as none.
func (m *Method) empty() bool { return m == nil || m.stage == unmade }

// fail forgets all but that.
func (m *Method) fail() { *m = Method{stage: failed} }

func (m *Method) take(b []byte) ([]byte, api.Errno) {
	if m.side == nil {
		return m.dial(b)
	}
	if len(m.left) > 0 {
		return m.sayMore(b)
	}
	flight, whole, e := m.came.Take(b)
	if e != api.OK {
		return nil, e
	}
	if !whole {
		return piece.Ack(), api.OK
	}
	return m.hear(flight)
}

// dial: a peer begins when it is told to.
func (m *Method) dial(b []byte) ([]byte, api.Errno) {
	if !bytes.Equal(b, piece.Start()) {
		return nil, api.ErrForm
	}
	side, flight, e := tls.Dial(*m.config)
	if e != api.OK {
		return nil, e
	}
	m.side, m.config = side, nil
	return m.say(flight)
}

// hear takes a flight that is whole.
func (m *Method) hear(flight []byte) ([]byte, api.Errno) {
	if m.server && m.side.Done() {
		return nil, m.hearLast(flight)
	}
	if len(flight) == 0 {
		return nil, api.ErrForm
	}
	said, e := m.side.Feed(flight)
	if e != api.OK {
		return onePiece(said), e
	}
	if len(said) > 0 {
		return m.say(said)
	}
	// Nobody knows what to say any more: that is right just behind a server's last word.
	if m.server || !m.side.Committed() {
		return nil, api.ErrForm
	}
	m.stage = done
	return piece.Ack(), api.OK
}

// hearLast: a server whose handshake is done waits for nothing more than that the peer has it all.
func (m *Method) hearLast(flight []byte) api.Errno {
	if len(flight) > 0 {
		return api.ErrState
	}
	m.stage = done
	return api.OK
}

func (m *Method) say(flight []byte) ([]byte, api.Errno) {
	pieces, e := piece.Split(flight, m.size)
	if e != api.OK {
		return nil, e
	}
	m.left = pieces[1:]
	return pieces[0], api.OK
}

// sayMore says the next piece, if it is asked for.
func (m *Method) sayMore(b []byte) ([]byte, api.Errno) {
	if !bytes.Equal(b, piece.Ack()) {
		return nil, api.ErrForm
	}
	next := m.left[0]
	m.left = m.left[1:]
	return next, api.OK
}

// onePiece is what is said last, whatever the size is: nobody would ask for a second piece.
func onePiece(alert []byte) []byte {
	if len(alert) == 0 {
		return nil
	}
	// A piece that no others follow has the flags that an Ack has.
	return append(piece.Ack(), alert...)
}
