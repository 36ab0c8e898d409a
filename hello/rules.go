package hello

import "tollgate/api"

const (
	mostSession = 32
	shareSize   = 65
	mostTicket  = 1000
	mostNonce   = 8
	mostSig     = 100
	// mostNumber is what a number of four bytes can say.
	mostNumber = 1<<32 - 1
)

// retried is the Random of a Server that is a Retry: by it alone the two are told from each other.
var retried = [32]byte{
	0xCF, 0x21, 0xAD, 0x74, 0xE5, 0x9A, 0x61, 0x11, 0xBE, 0x1D, 0x8C, 0x02, 0x1E, 0x65, 0xB8, 0x91,
	0xC2, 0xA2, 0x11, 0x16, 0x7A, 0xBB, 0x8C, 0x5E, 0x07, 0x9E, 0x09, 0xE2, 0xC8, 0xA8, 0x33, 0x9C,
}

// parts is a set of a message's parts.
type parts int

const (
	random parts = 1 << iota
	mark
	session
	share
	ticket
	nonce
	sig
	certs
	life
	age
	psk
	retry
)

func isKind(kind int) bool {
	switch kind {
	case Client, Server, Ticket, Extensions, Certs, Request, Verify, Finished:
		return true
	}
	return false
}

func inForm(m *Msg) bool {
	return isKind(m.Kind) && filled(m)&^named(m) == 0 && fits(m)
}

// filled are the parts that aren't empty, noughts, or false.
func filled(m *Msg) parts {
	var all parts
	add := func(there bool, p parts) {
		if there {
			all |= p
		}
	}
	add(m.Random != [32]byte{}, random)
	add(m.Mark != [32]byte{}, mark)
	add(len(m.Session) > 0, session)
	add(len(m.Share) > 0, share)
	add(len(m.Ticket) > 0, ticket)
	add(len(m.Nonce) > 0, nonce)
	add(len(m.Sig) > 0, sig)
	add(len(m.Certs) > 0, certs)
	add(m.Life != 0, life)
	add(m.Age != 0, age)
	add(m.Psk, psk)
	add(m.Retry, retry)
	return all
}

// named are the parts that may be filled in a message of that kind.
func named(m *Msg) parts {
	switch m.Kind {
	case Client:
		if m.Psk {
			return random | session | share | psk | ticket | age | mark
		}
		return random | session | share
	case Server:
		if m.Retry {
			return session | retry
		}
		return random | session | share | psk
	case Ticket:
		return life | age | nonce | ticket
	case Certs:
		return certs
	case Verify:
		return sig
	case Finished:
		return mark
	}
	return 0
}

// fits: have the parts that are named for that kind the sizes that they may have?
func fits(m *Msg) bool {
	switch m.Kind {
	case Client:
		return sized(m.Session, 0, mostSession) && (len(m.Share) == 0 || len(m.Share) == shareSize) &&
			(!m.Psk || sized(m.Ticket, 1, mostTicket) && isNumber(m.Age))
	case Server:
		return sized(m.Session, 0, mostSession) && (m.Retry || len(m.Share) == shareSize && m.Random != retried)
	case Ticket:
		return isNumber(m.Life) && isNumber(m.Age) && sized(m.Nonce, 1, mostNonce) && sized(m.Ticket, 1, mostTicket)
	case Certs:
		return areCerts(m.Certs)
	case Verify:
		return sized(m.Sig, 1, mostSig)
	}
	return true
}

func sized(b []byte, least, most int) bool { return least <= len(b) && len(b) <= most }

func isNumber(n int) bool { return 0 <= n && n <= mostNumber }

func areCerts(all [][]byte) bool {
	if len(all) > api.MaxChain {
		return false
	}
	for _, c := range all {
		if !sized(c, 1, api.MaxCert) {
			return false
		}
	}
	return true
}
