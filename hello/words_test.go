package hello_test

import (
	"bytes"
	"encoding/hex"
	"slices"
	"strings"
	"testing"

	"tollgate/api"
	"tollgate/hello"
	"tollgate/sample"
)

// What the document says of messages, in its own words and numbers: how they are written, which are in form, and
// which bytes are those of one.

// most is what a body's count says at most.
const most = 32768

func kinds() []int { return []int{1, 2, 4, 8, 11, 13, 15, 20} }

// noKinds stand beside kinds, or have the last byte of one.
func noKinds() []int {
	return []int{-1 << 63, -255, -1, 0, 3, 5, 6, 7, 9, 10, 12, 14, 16, 17, 18, 19, 21, 24, 127, 128, 254, 255, 256, 257, 256 + 8, 512 + 20, 1<<32 + 1, 1<<63 - 1}
}

// hexOf are the bytes of digits of base 16; spaces don't count.
func hexOf(digits string) []byte {
	b, err := hex.DecodeString(strings.ReplaceAll(digits, " ", ""))
	if err != nil {
		panic(err)
	}
	return b
}

func retried() [32]byte {
	return [32]byte(hexOf("CF21AD74 E59A6111 BE1D8C02 1E65B891 C2A21116 7ABB8C5E 079E09E2 C8A8339C"))
}

// put is texts of base 16 and bytes, one behind the other.
func put(held ...any) []byte {
	var b []byte
	for _, x := range held {
		switch x := x.(type) {
		case string:
			b = append(b, hexOf(x)...)
		case []byte:
			b = append(b, x...)
		case [32]byte:
			b = append(b, x[:]...)
		default:
			panic(x)
		}
	}
	return b
}

// num is n in so many bytes.
func num(size, n int) []byte {
	b := make([]byte, size)
	for i := size - 1; i >= 0; i-- {
		b[i] = byte(n % 256)
		n /= 256
	}
	return b
}

// in is what is put with its count ahead.
func in(size int, held ...any) []byte {
	b := put(held...)
	return append(num(size, len(b)), b...)
}

// msg is a body's message.
func msg(kind int, body ...any) []byte { return put(num(1, kind), in(3, body...)) }

// The extensions of a Client, one by one.
func versions() []byte { return put("002B 0003 02 0304") }
func groups() []byte   { return put("000A 0004 0002 0017") }
func ways() []byte     { return put("000D 0004 0002 0403") }
func modes() []byte    { return put("002D 0002 01 01") }

func keyShare(share []byte) []byte {
	if len(share) == 0 {
		return put("0033", in(2, in(2)))
	}
	return put("0033", in(2, in(2, "0017", in(2, share))))
}

func preShared(ticket []byte, age int, mark [32]byte) []byte {
	return put("0029", in(2, in(2, in(2, ticket), num(4, age)), "0021 20", mark))
}

func clientOf(random [32]byte, session []byte, extensions ...any) []byte {
	return msg(1, "0303", random, in(1, session), "0002 1301 01 00", in(2, extensions...))
}

func serverOf(random [32]byte, session []byte, extensions ...any) []byte {
	return msg(2, "0303", random, in(1, session), "1301 00", in(2, extensions...))
}

// bytesOf is a message's bytes, whether it is in form or not.
func bytesOf(m hello.Msg) []byte {
	switch m.Kind {
	case 1:
		if m.Psk {
			return clientOf(m.Random, m.Session, versions(), groups(), ways(), keyShare(m.Share), modes(), preShared(m.Ticket, m.Age, m.Mark))
		}
		return clientOf(m.Random, m.Session, versions(), groups(), ways(), keyShare(m.Share))
	case 2:
		if m.Retry {
			return serverOf(retried(), m.Session, "002B 0002 0304", "0033 0002 0017")
		}
		b := put("002B 0002 0304", "0033 0045 0017", in(2, m.Share))
		if m.Psk {
			b = put(b, "0029 0002 0000")
		}
		return serverOf(m.Random, m.Session, b)
	case 4:
		return msg(4, num(4, m.Life), num(4, m.Age), in(1, m.Nonce), in(2, m.Ticket), "0000")
	case 8:
		return msg(8, "0000")
	case 11:
		var b []byte
		for _, c := range m.Certs {
			b = put(b, in(3, c), "0000")
		}
		return msg(11, "00", in(3, b))
	case 13:
		return msg(13, "00 0008 000D 0004 0002 0403")
	case 15:
		return msg(15, "0403", in(2, m.Sig))
	default:
		return msg(m.Kind, m.Mark)
	}
}

// bare is a message with just its kind, to which the parts that are named for it are put again.
func bare(m hello.Msg) hello.Msg {
	n := hello.Msg{Kind: m.Kind}
	switch m.Kind {
	case 1:
		n.Random, n.Session, n.Share, n.Psk = m.Random, m.Session, m.Share, m.Psk
		if m.Psk {
			n.Ticket, n.Age, n.Mark = m.Ticket, m.Age, m.Mark
		}
	case 2:
		n.Session, n.Retry = m.Session, m.Retry
		if !m.Retry {
			n.Random, n.Share, n.Psk = m.Random, m.Share, m.Psk
		}
	case 4:
		n.Life, n.Age, n.Nonce, n.Ticket = m.Life, m.Age, m.Nonce, m.Ticket
	case 11:
		n.Certs = m.Certs
	case 15:
		n.Sig = m.Sig
	case 20:
		n.Mark = m.Mark
	}
	return n
}

func isInForm(m hello.Msg) bool {
	if !slices.Contains(kinds(), m.Kind) || !same(m, bare(m)) {
		return false
	}
	wide := func(n int) bool { return n < 0 || n > 4294967295 }
	switch m.Kind {
	case 1:
		if len(m.Session) > 32 || len(m.Share) != 0 && len(m.Share) != 65 {
			return false
		}
		return !m.Psk || len(m.Ticket) >= 1 && len(m.Ticket) <= 1000 && !wide(m.Age)
	case 2:
		if len(m.Session) > 32 {
			return false
		}
		return m.Retry || len(m.Share) == 65 && m.Random != retried()
	case 4:
		return !wide(m.Life) && !wide(m.Age) && len(m.Nonce) >= 1 && len(m.Nonce) <= 8 && len(m.Ticket) >= 1 && len(m.Ticket) <= 1000
	case 11:
		for _, c := range m.Certs {
			if len(c) == 0 || len(c) > 2048 {
				return false
			}
		}
		return len(m.Certs) <= 5
	case 15:
		return len(m.Sig) >= 1 && len(m.Sig) <= 100
	}
	return true
}

func same(a, b hello.Msg) bool {
	return a.Kind == b.Kind && a.Random == b.Random && a.Mark == b.Mark && bytes.Equal(a.Session, b.Session) && bytes.Equal(a.Share, b.Share) &&
		bytes.Equal(a.Ticket, b.Ticket) && bytes.Equal(a.Nonce, b.Nonce) && bytes.Equal(a.Sig, b.Sig) && slices.EqualFunc(a.Certs, b.Certs, bytes.Equal) &&
		a.Life == b.Life && a.Age == b.Age && a.Psk == b.Psk && a.Retry == b.Retry
}

func isNone(m hello.Msg) bool { return same(m, hello.Msg{}) }

// copied shares no memory with m.
func copied(m hello.Msg) hello.Msg {
	m.Session, m.Share, m.Ticket = bytes.Clone(m.Session), bytes.Clone(m.Share), bytes.Clone(m.Ticket)
	m.Nonce, m.Sig, m.Certs = bytes.Clone(m.Nonce), bytes.Clone(m.Sig), slices.Clone(m.Certs)
	for i, c := range m.Certs {
		m.Certs[i] = bytes.Clone(c)
	}
	return m
}

// look walks over bytes and tells whether they are as they should be.
type look struct {
	b     []byte
	wrong bool
}

func (l *look) some(n int) []byte {
	if n > len(l.b) {
		l.wrong = true
		return make([]byte, n)
	}
	b := l.b[:n]
	l.b = l.b[n:]
	return b
}

func (l *look) is(digits string) {
	want := hexOf(digits)
	if !bytes.Equal(l.some(len(want)), want) {
		l.wrong = true
	}
}

func (l *look) num(size int) int {
	n := 0
	for _, c := range l.some(size) {
		n = n*256 + int(c)
	}
	return n
}

// in is what stands behind a count; it must be looked through wholly.
func (l *look) in(size int, through func(*look)) {
	n := l.num(size)
	if n > len(l.b) {
		l.wrong = true
		return
	}
	inner := look{b: l.some(n)}
	through(&inner)
	if inner.wrong || len(inner.b) > 0 {
		l.wrong = true
	}
}

func (l *look) all() []byte { return l.some(len(l.b)) }

func (l *look) client(m *hello.Msg) {
	l.is("0303")
	m.Random = [32]byte(l.some(32))
	l.in(1, func(l *look) { m.Session = l.all() })
	l.is("0002 1301 01 00")
	l.in(2, func(l *look) {
		l.is("002B 0003 02 0304 000A 0004 0002 0017 000D 0004 0002 0403 0033")
		l.in(2, func(l *look) {
			l.in(2, func(l *look) {
				if len(l.b) > 0 {
					l.is("0017 0041")
					m.Share = l.some(65)
				}
			})
		})
		if len(l.b) == 0 {
			return
		}
		m.Psk = true
		l.is("002D 0002 01 01 0029")
		l.in(2, func(l *look) {
			l.in(2, func(l *look) {
				l.in(2, func(l *look) { m.Ticket = l.all() })
				m.Age = l.num(4)
			})
			l.is("0021 20")
			m.Mark = [32]byte(l.some(32))
		})
	})
}

func (l *look) server(m *hello.Msg) {
	l.is("0303")
	m.Random = [32]byte(l.some(32))
	m.Retry = m.Random == retried()
	l.in(1, func(l *look) { m.Session = l.all() })
	l.is("1301 00")
	l.in(2, func(l *look) {
		l.is("002B 0002 0304 0033")
		if m.Retry {
			m.Random = [32]byte{}
			l.is("0002 0017")
			return
		}
		l.is("0045 0017 0041")
		m.Share = l.some(65)
		if m.Psk = len(l.b) > 0; m.Psk {
			l.is("0029 0002 0000")
		}
	})
}

func (l *look) body(m *hello.Msg) {
	switch m.Kind {
	case 1:
		l.client(m)
	case 2:
		l.server(m)
	case 4:
		m.Life = l.num(4)
		m.Age = l.num(4)
		l.in(1, func(l *look) { m.Nonce = l.all() })
		l.in(2, func(l *look) { m.Ticket = l.all() })
		l.is("0000")
	case 8:
		l.is("0000")
	case 11:
		l.is("00")
		l.in(3, func(l *look) {
			for len(l.b) > 0 && !l.wrong {
				l.in(3, func(l *look) { m.Certs = append(m.Certs, l.all()) })
				l.is("0000")
			}
		})
	case 13:
		l.is("00 0008 000D 0004 0002 0403")
	case 15:
		l.is("0403")
		l.in(2, func(l *look) { m.Sig = l.all() })
	case 20:
		m.Mark = [32]byte(l.some(32))
	}
}

// readOf is what Read must answer.
func readOf(b []byte) (hello.Msg, int, api.Errno) {
	if len(b) > 0 && !slices.Contains(kinds(), int(b[0])) {
		return hello.Msg{}, 0, api.ErrForm
	}
	if len(b) < 4 {
		return hello.Msg{}, 0, api.ErrTail
	}
	count := 65536*int(b[1]) + 256*int(b[2]) + int(b[3])
	if count > most {
		return hello.Msg{}, 0, api.ErrBig
	}
	if len(b) < 4+count {
		return hello.Msg{}, 0, api.ErrTail
	}
	m := hello.Msg{Kind: int(b[0])}
	l := look{b: b[4 : 4+count]}
	l.body(&m)
	if l.wrong || len(l.b) > 0 || !isInForm(m) {
		return hello.Msg{}, 0, api.ErrForm
	}
	return m, 4 + count, api.OK
}

// isRead holds what Read and Short answer of b against the document's words, and tells Read's error.
func isRead(t *testing.T, b []byte) api.Errno {
	t.Helper()
	want, wantSize, wantE := readOf(b)
	m, n, e := hello.Read(b)
	if e != wantE || n != wantSize || !same(m, want) {
		t.Errorf("%.400x (%d bytes): %v, %d bytes, error %d, not %v, %d, %d", b, len(b), m, n, e, want, wantSize, wantE)
	}
	short := b
	if wantE == api.OK && wantSize == len(b) && want.Kind == 1 && want.Psk {
		short = b[:len(b)-35]
	}
	if got := hello.Short(b); !bytes.Equal(got, short) {
		t.Errorf("%.400x (%d bytes): the short of it has %d bytes, not %d: %.400x", b, len(b), len(got), len(short), got)
	}
	return wantE
}

// isWritten holds what Write answers of m against the document's words, and that it comes back.
func isWritten(t *testing.T, m hello.Msg, what string) {
	t.Helper()
	b, e := hello.Write(m)
	if !isInForm(m) {
		if e != api.ErrForm || len(b) > 0 {
			t.Errorf("%s: not in form, but %d bytes, error %d: %v", what, len(b), e, m)
		}
		return
	}
	want := bytesOf(m)
	if e != api.OK || !bytes.Equal(b, want) {
		t.Errorf("%s: %.400x, not %.400x, error %d", what, b, want, e)
	}
	isRead(t, want)
	isRead(t, append(bytes.Clone(want), 1, 0, 0))
	if got, n, e := hello.Read(want); e != api.OK || n != len(want) || !same(got, m) {
		t.Errorf("%s: %v came back as %v, %d of %d bytes, error %d", what, m, got, n, len(want), e)
	}
}

func share(seed int) []byte { return sample.Filled(65, seed) }

func sum(seed int) [32]byte { return [32]byte(sample.Filled(32, seed)) }

// messages are some of each kind, all in form, and small.
func messages() []hello.Msg {
	s := sample.Filled
	return []hello.Msg{
		{Kind: 1}, {Kind: 1, Random: sum(1)}, {Kind: 1, Random: retried(), Session: s(3, 1)}, {Kind: 1, Random: sum(2), Session: s(32, 2), Share: share(1)},
		{Kind: 1, Random: sum(3), Share: share(2)}, {Kind: 1, Random: sum(4), Share: share(3), Psk: true, Ticket: s(9, 1), Age: 0x01020304, Mark: sum(5)},
		{Kind: 1, Random: sum(6), Session: s(1, 3), Psk: true, Ticket: []byte{0}}, {Kind: 1, Psk: true, Ticket: s(40, 2), Age: 1<<32 - 1, Mark: sum(7)},
		{Kind: 2, Retry: true}, {Kind: 2, Retry: true, Session: s(5, 4)}, {Kind: 2, Retry: true, Session: s(32, 5)},
		{Kind: 2, Share: share(4)}, {Kind: 2, Random: sum(8), Share: share(5)}, {Kind: 2, Random: sum(9), Session: s(32, 6), Share: share(6), Psk: true},
		{Kind: 2, Random: sum(10), Session: []byte{0}, Share: make([]byte, 65), Psk: true},
		{Kind: 4, Nonce: []byte{0}, Ticket: []byte("t")}, {Kind: 4, Life: 1000, Age: 0xFEDCBA98, Nonce: s(8, 7), Ticket: s(20, 8)},
		{Kind: 8}, {Kind: 13},
		{Kind: 11}, {Kind: 11, Certs: [][]byte{{0}}}, {Kind: 11, Certs: [][]byte{s(7, 1), s(1, 2), s(12, 3)}},
		{Kind: 11, Certs: [][]byte{{1}, {0, 0}, {0, 0, 1}, {2}, {3, 4}}},
		{Kind: 15, Sig: []byte{0}}, {Kind: 15, Sig: s(71, 9)}, {Kind: 20}, {Kind: 20, Mark: sum(11)},
	}
}
