package hello

import (
	"bytes"

	"tollgate/api"
)

// sizeOf is how many bytes the message has that b begins with, by its count.
func sizeOf(b []byte) (int, api.Errno) {
	if len(b) > 0 && !isKind(int(b[0])) {
		return 0, api.ErrForm
	}
	if len(b) < headSize {
		return 0, api.ErrTail
	}
	c := cursor{b[1:]}
	count := c.number(headSize - 1)
	if count > api.MaxFlight {
		return 0, api.ErrBig
	}
	if len(b)-headSize < count {
		return 0, api.ErrTail
	}
	return headSize + count, api.OK
}

// cursor reads bytes from the front. What isn't there is read as nothing, and what must always be the same is passed
// unseen: who reads asks then whether what was read would be written so.
type cursor struct{ rest []byte }

// said is the message that b is the bytes of, if there is one.
func said(b []byte) Msg {
	m := Msg{Kind: int(b[0])}
	c := cursor{b[headSize:]}
	switch m.Kind {
	case Client:
		c.client(&m)
	case Server:
		c.server(&m)
	case Ticket:
		c.ticket(&m)
	case Certs:
		c.certs(&m)
	case Verify:
		c.pass(sigBy)
		m.Sig = c.counted(2)
	case Finished:
		m.Mark = c.sum()
	}
	return m
}

func (c *cursor) client(m *Msg) {
	c.pass(version)
	m.Random = c.sum()
	m.Session = c.counted(1)
	c.pass(suites + compressions)
	c.number(2)
	c.pass(abilities + keyShare)
	c.number(2)
	if c.number(2) > 0 {
		c.pass(group)
		m.Share = c.counted(2)
	}
	if len(c.rest) == 0 {
		return
	}
	m.Psk = true
	c.pass(modes + preShared)
	c.number(2)
	c.number(2)
	m.Ticket = c.counted(2)
	m.Age = c.number(4)
	c.pass(markAhead)
	m.Mark = c.sum()
}

func (c *cursor) server(m *Msg) {
	c.pass(version)
	m.Random = c.sum()
	m.Session = c.counted(1)
	if m.Random == retried {
		m.Random, m.Retry = [32]byte{}, true
		return
	}
	c.pass(suite + noCompression)
	c.number(2)
	c.pass(taken + keyShare)
	c.number(2)
	c.pass(group)
	m.Share = c.counted(2)
	m.Psk = len(c.rest) > 0
}

func (c *cursor) ticket(m *Msg) {
	m.Life = c.number(4)
	m.Age = c.number(4)
	m.Nonce = c.counted(1)
	m.Ticket = c.counted(2)
}

// certs reads no more than one beyond the most, by which it is plain that they are too many.
func (c *cursor) certs(m *Msg) {
	c.pass(noContext)
	c.number(3)
	for len(c.rest) > 0 && len(m.Certs) <= api.MaxChain {
		m.Certs = append(m.Certs, c.counted(3))
		c.pass(noExtensions)
	}
}

// take is the next n bytes, or as many as there are; a piece of what is read.
func (c *cursor) take(n int) []byte {
	n = min(n, len(c.rest))
	taken := c.rest[:n]
	c.rest = c.rest[n:]
	return taken
}

func (c *cursor) pass(text string) { c.take(len(text)) }

func (c *cursor) number(size int) int {
	n := 0
	for _, digit := range c.take(size) {
		n = n<<8 | int(digit)
	}
	return n
}

// counted is a copy of the bytes that their count stands ahead of.
func (c *cursor) counted(size int) []byte { return bytes.Clone(c.take(c.number(size))) }

func (c *cursor) sum() [32]byte {
	var b [32]byte
	copy(b[:], c.take(len(b)))
	return b
}
