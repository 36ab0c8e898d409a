package tls

import (
	"bytes"
	"errors"

	"tollgate/api"
	"tollgate/cert"
	"tollgate/hash"
	"tollgate/hello"
	"tollgate/record"
)

// stage is how far an end is.
type stage int

const (
	unmade stage = iota // neither Dial nor Serve made it
	talking
	done
	failed
)

const (
	fatal  = 2
	commit = "\x00"
)

// heard is a message that came, and its bytes.
type heard struct {
	hello.Msg
	bytes []byte
}

// step is what is done with a message that was waited for: what is said then.
type step func(*Side, heard) ([]byte, error)

func newSide(c Config) *Side {
	return &Side{stage: talking, hand: &handshake{own: copyOf(c), all: hash.New()}}
}

// empty: a side that neither Dial nor Serve made counts as none.
func (s *Side) empty() bool { return s == nil || s.stage == unmade }

func (s *Side) wait(kind int, then step) { s.wants, s.then = kind, then }

// takeAll takes records, one by one.
func (s *Side) takeAll(b []byte) ([]byte, error) {
	var said []byte
	for len(b) > 0 {
		rec, rest, e := record.Cut(b)
		if e != api.OK {
			return nil, endedBy(fault(e))
		}
		more, err := s.take(rec)
		if err != nil {
			return nil, endedBy(err)
		}
		said = append(said, more...)
		b = rest
	}
	return said, nil
}

func (s *Side) take(rec []byte) ([]byte, error) {
	kind, b, e := s.within(rec)
	if e != api.OK {
		return nil, fault(e)
	}
	switch kind {
	case record.Alert:
		return nil, theirAlert
	case record.Data:
		return nil, s.takeData(b)
	}
	return s.takeMessages(b)
}

func (s *Side) within(rec []byte) (int, []byte, api.Errno) {
	if s.open == nil {
		return record.Body(rec)
	}
	return s.open.Open(rec)
}

// takeData: a server says just that it has taken all.
func (s *Side) takeData(b []byte) error {
	if s.server || s.stage != done || string(b) != commit {
		return fault(api.ErrState)
	}
	s.committed = true
	return nil
}

// takeMessages takes those that a record holds, one by one.
func (s *Side) takeMessages(b []byte) ([]byte, error) {
	if len(b) == 0 {
		return nil, fault(api.ErrForm)
	}
	var said []byte
	for len(b) > 0 {
		m, n, e := hello.Read(b)
		if e != api.OK {
			return nil, fault(e)
		}
		more, err := s.hear(heard{Msg: m, bytes: b[:n]})
		if err != nil {
			return nil, err
		}
		said = append(said, more...)
		b = b[n:]
	}
	return said, nil
}

func (s *Side) hear(m heard) ([]byte, error) {
	if m.Kind != s.wants {
		return nil, fault(api.ErrState)
	}
	return s.then(s, m)
}

// record is a record of what is said, as the end speaks now.
func (s *Side) record(kind int, b []byte) ([]byte, error) {
	if s.seal == nil {
		rec, e := record.Bare(kind, b)
		return rec, check(e)
	}
	rec, e := s.seal.Seal(kind, b, 0)
	return rec, check(e)
}

// giveUp answers an error: the other end learns of it by an alert, unless it said one itself.
func (s *Side) giveUp(err error) ([]byte, api.Errno) {
	var said []byte
	var end ending
	if errors.As(err, &end) && !errors.Is(err, theirAlert) {
		said = s.alert(end.code)
	}
	s.fail()
	return said, told(err)
}

// alert is what an end says last. Nothing, if it may not even say that.
func (s *Side) alert(code byte) []byte {
	rec, err := s.record(record.Alert, []byte{fatal, code})
	if err != nil {
		return nil
	}
	return rec
}

// fail forgets all but that.
func (s *Side) fail() {
	*s = Side{stage: failed, server: s.server, resumed: s.resumed, committed: s.committed}
}

func copyOf(c Config) Config {
	c.Chain, c.Roots = copyOfList(c.Chain), copyOfList(c.Roots)
	c.Saved.Ticket, c.Saved.Peer = bytes.Clone(c.Saved.Ticket), copyOfCert(c.Saved.Peer)
	return c
}

func copyOfList(list [][]byte) [][]byte {
	var other [][]byte
	for _, b := range list {
		other = append(other, bytes.Clone(b))
	}
	return other
}

func copyOfCert(c cert.Cert) cert.Cert {
	c.Key = bytes.Clone(c.Key)
	return c
}
