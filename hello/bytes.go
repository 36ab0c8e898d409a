package hello

import "slices"

// headSize is that of the kind and the count ahead of a message's body, markSize that of what stands behind what a
// Client's mark is of.
const (
	headSize = 4
	markSize = len(markAhead) + 32
)

// What is always the same, as RFC 8446 has it. An extension begins with its number and its count, two bytes each.
const (
	version       = "\x03\x03" // that of TLS 1.2, which all say here
	suite         = "\x13\x01"
	noCompression = "\x00"
	group         = "\x00\x17"
	signing       = "\x00\x0D\x00\x04\x00\x02\x04\x03"
	keyShare      = "\x00\x33"
	preShared     = "\x00\x29"

	// What a Client can do: just one thing of each.
	suites       = "\x00\x02" + suite
	compressions = "\x01" + noCompression
	abilities    = "\x00\x2B\x00\x03\x02\x03\x04" + "\x00\x0A\x00\x04\x00\x02" + group + signing
	modes        = "\x00\x2D\x00\x02\x01\x01"
	markAhead    = "\x00\x21\x20" // a Client has one mark

	// What a Server takes of these.
	taken       = "\x00\x2B\x00\x02\x03\x04"
	takenTicket = preShared + "\x00\x02\x00\x00"

	noExtensions = "\x00\x00"
	noContext    = "\x00"
	sigBy        = "\x04\x03"
	request      = noContext + "\x00\x08" + signing
)

// whole is the bytes of a message in form.
func whole(m *Msg) []byte { return slices.Concat([]byte{byte(m.Kind)}, counted(3, body(m))) }

func body(m *Msg) []byte {
	switch m.Kind {
	case Client:
		return slices.Concat([]byte(version), m.Random[:], counted(1, m.Session), []byte(suites+compressions),
			counted(2, []byte(abilities+keyShare), counted(2, counted(2, shares(m))), offered(m)))
	case Server:
		return slices.Concat([]byte(version), serverRandom(m), counted(1, m.Session), []byte(suite+noCompression),
			counted(2, []byte(taken+keyShare), counted(2, []byte(group), serverShare(m)), acceptedTicket(m)))
	case Ticket:
		return slices.Concat(number(4, m.Life), number(4, m.Age), counted(1, m.Nonce), counted(2, m.Ticket), []byte(noExtensions))
	case Extensions:
		return []byte(noExtensions)
	case Certs:
		return slices.Concat([]byte(noContext), counted(3, chain(m)))
	case Request:
		return []byte(request)
	case Verify:
		return slices.Concat([]byte(sigBy), counted(2, m.Sig))
	case Finished:
		return slices.Clone(m.Mark[:])
	}
	return nil
}

// shares are a Client's: one, or none.
func shares(m *Msg) []byte {
	if len(m.Share) == 0 {
		return nil
	}
	return slices.Concat([]byte(group), counted(2, m.Share))
}

// offered is the ticket that a Client shows, and its mark, which must be the last.
func offered(m *Msg) []byte {
	if !m.Psk {
		return nil
	}
	tickets := counted(2, counted(2, m.Ticket), number(4, m.Age))
	return slices.Concat([]byte(modes+preShared), counted(2, tickets, []byte(markAhead), m.Mark[:]))
}

func serverRandom(m *Msg) []byte {
	r := m.Random
	if m.Retry {
		r = retried
	}
	return r[:]
}

// serverShare is what stands behind the group: a Retry just names it.
func serverShare(m *Msg) []byte {
	if m.Retry {
		return nil
	}
	return counted(2, m.Share)
}

func acceptedTicket(m *Msg) []byte {
	if !m.Psk {
		return nil
	}
	return []byte(takenTicket)
}

func chain(m *Msg) []byte {
	var b []byte
	for _, c := range m.Certs {
		b = slices.Concat(b, counted(3, c), []byte(noExtensions))
	}
	return b
}

// counted is what is held with its count ahead, in so many bytes.
func counted(size int, held ...[]byte) []byte {
	b := slices.Concat(held...)
	return append(number(size, len(b)), b...)
}

// number is n in so many bytes, the highest first.
func number(size, n int) []byte {
	b := make([]byte, size)
	for i := range b {
		b[size-1-i] = byte(n >> (8 * i))
	}
	return b
}
