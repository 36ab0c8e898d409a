package hello_test

import (
	"bytes"
	"testing"

	"tollgate/hello"
	"tollgate/sample"
)

func TestShortOfMessages(t *testing.T) {
	for _, m := range append(messages(), biggest()...) {
		b := bytesOf(m)
		want := b
		if m.Kind == 1 && m.Psk {
			want = b[:len(b)-35]
		}
		if got := hello.Short(b); !bytes.Equal(got, want) {
			t.Errorf("%.80x: %d bytes, not %d", b, len(got), len(want))
		}
	}
}

// What stays is all but the mark: with another one it is the same.
func TestShortIsWithoutTheMark(t *testing.T) {
	m := hello.Msg{Kind: 1, Random: sum(1), Share: share(1), Psk: true, Ticket: sample.Filled(90, 1), Age: 77}
	first, _ := hello.Write(m)
	m.Mark = sum(2)
	marked, _ := hello.Write(m)
	if bytes.Equal(first, marked) || !bytes.Equal(hello.Short(first), hello.Short(marked)) || !bytes.Equal(put(hello.Short(marked), "0021 20", m.Mark), marked) {
		t.Errorf("%x and %x", hello.Short(first), hello.Short(marked))
	}
}

// Of all bytes that aren't just those of a Client with Psk nothing is left out.
func TestShortOfOtherBytes(t *testing.T) {
	for _, m := range []hello.Msg{{Kind: 1, Psk: true, Ticket: []byte("t")}, {Kind: 1, Random: sum(1), Session: []byte("s"), Share: share(1), Psk: true, Ticket: []byte("tick"), Age: 9, Mark: sum(2)}} {
		b := bytesOf(m)
		short := b[:len(b)-35]
		plain := copied(m)
		plain.Psk, plain.Ticket, plain.Age, plain.Mark = false, nil, 0, [32]byte{}
		for _, other := range [][]byte{
			nil, {}, {1}, short, b[1:], b[:len(b)-1], b[:4], bytesOf(plain), sample.Filled(35, 1), sample.Filled(100, 1), make([]byte, 35), put(b, "00"), put("00", b), put(b, b),
			put(b, bytesOf(plain)), put(bytesOf(plain), b), put(bytesOf(hello.Msg{Kind: 8}), b), put(b, bytesOf(hello.Msg{Kind: 8})), put(b[:1], in(3, b[4:], "00")),
			put(b[:1], in(3, b[4:len(b)-1])), put(b[:1], in(3, short[4:])), put("02", b[1:]), bytes.Repeat(b, 50), make([]byte, 40000), put(num(1, 1), num(3, most+1), make([]byte, most+1)),
		} {
			if got := hello.Short(other); !bytes.Equal(got, other) {
				t.Errorf("%.300x (%d bytes): %d bytes", other, len(other), len(got))
			}
		}
		for i := range b {
			for bit := range 8 {
				changed := bytes.Clone(b)
				changed[i] ^= 1 << bit
				isRead(t, changed)
			}
		}
	}
}
