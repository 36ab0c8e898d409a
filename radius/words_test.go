package radius_test

import (
	"bytes"
	"crypto/hmac"
	"crypto/md5"
	"fmt"
	"slices"
	"testing"

	"tollgate/api"
	"tollgate/radius"
	"tollgate/sample"
)

// The document's own numbers.
const (
	most      = 4096 // bytes of a packet
	mostValue = 253
	markKind  = 80
	eapKind   = 79
)

// isInForm is what the document says of a packet.
func isInForm(p radius.Packet) bool {
	n := 20
	for _, a := range p.Attrs {
		if a.Kind < 1 || a.Kind > 255 || len(a.Value) > mostValue {
			return false
		}
		n += 2 + len(a.Value)
	}
	return slices.Contains([]int{1, 2, 3, 11}, p.Code) && p.Id >= 0 && p.Id <= 255 && n <= most
}

// bytesOf is what the document says of the bytes of a packet in form.
func bytesOf(p radius.Packet) []byte {
	var attrs []byte
	for _, a := range p.Attrs {
		attrs = slices.Concat(attrs, []byte{byte(a.Kind), byte(len(a.Value) + 2)}, a.Value)
	}
	n := 20 + len(attrs)
	return slices.Concat([]byte{byte(p.Code), byte(p.Id), byte(n / 256), byte(n % 256)}, p.Auth[:], attrs)
}

// packetOf is what Read must answer of these bytes, if they are a packet's.
func packetOf(b []byte) (radius.Packet, bool) {
	if len(b) < 20 || len(b) > most || len(b) != 256*int(b[2])+int(b[3]) || !slices.Contains([]byte{1, 2, 3, 11}, b[0]) {
		return radius.Packet{}, false
	}
	p := radius.Packet{Code: int(b[0]), Id: int(b[1]), Auth: [16]byte(b[4:20])}
	for at := 20; at < len(b); at += int(b[at+1]) {
		if b[at] == 0 || at+1 == len(b) || b[at+1] < 2 || at+int(b[at+1]) > len(b) {
			return radius.Packet{}, false
		}
		p.Attrs = append(p.Attrs, radius.Attr{Kind: int(b[at]), Value: bytes.Clone(b[at+2 : at+int(b[at+1])])})
	}
	return p, true
}

func markOf(secret, b []byte) []byte {
	h := hmac.New(md5.New, secret)
	h.Write(b)
	return h.Sum(nil)
}

// with is p with an attribute more.
func with(p radius.Packet, kind int, value ...byte) radius.Packet {
	p.Attrs = append(slices.Clone(p.Attrs), radius.Attr{Kind: kind, Value: value})
	return p
}

// markAt tells where the value of the first Mark of 16 bytes stands, or -1.
func markAt(b []byte) int {
	for at := 20; at+1 < len(b) && b[at+1] >= 2; at += int(b[at+1]) {
		if b[at] == markKind && b[at+1] == 18 && at+18 <= len(b) {
			return at + 2
		}
	}
	return -1
}

// marked is b with its Mark put right, wherever that stands.
func marked(b, secret []byte) []byte {
	at := markAt(b)
	other := slices.Concat(b[:at], make([]byte, 16), b[at+16:])
	return slices.Concat(b[:at], markOf(secret, other), b[at+16:])
}

// sealedOf is what Seal must answer of a packet that may be sealed.
func sealedOf(p radius.Packet, secret []byte) []byte {
	return marked(bytesOf(with(p, markKind, make([]byte, 16)...)), secret)
}

// repliedOf is what Reply must answer of a packet that may be an answer.
func repliedOf(p radius.Packet, asked [16]byte, secret []byte) []byte {
	p.Auth = asked
	return answered(sealedOf(p, secret), asked, secret)
}

// answered is b with its Auth put right.
func answered(b []byte, asked [16]byte, secret []byte) []byte {
	sum := md5.Sum(slices.Concat(b[:4], asked[:], b[20:], secret))
	return slices.Concat(b[:4], sum[:], b[20:])
}

func same(a, b radius.Packet) bool {
	return a.Code == b.Code && a.Id == b.Id && a.Auth == b.Auth && sameAttrs(a.Attrs, b.Attrs)
}

func sameAttrs(a, b []radius.Attr) bool {
	return slices.EqualFunc(a, b, func(x, y radius.Attr) bool { return x.Kind == y.Kind && bytes.Equal(x.Value, y.Value) })
}

func named(p radius.Packet) string {
	s := fmt.Sprintf("Code %d, Id %d, Auth %x", p.Code, p.Id, p.Auth)
	for _, a := range p.Attrs {
		s += fmt.Sprintf(", %d: %.5x (%d)", a.Kind, a.Value, len(a.Value))
	}
	return s
}

func attr(kind, n int) radius.Attr { return radius.Attr{Kind: kind, Value: sample.Filled(n, kind)} }

// full is a packet with so many bytes.
func full(code, n int) radius.Packet {
	p := radius.Packet{Code: code, Id: n % 256, Auth: [16]byte(sample.Filled(16, n))}
	for n -= 20; n > 255; n -= 255 {
		if n < 257 {
			p.Attrs = append(p.Attrs, attr(7, 100))
			n += 255 - 102
			continue
		}
		p.Attrs = append(p.Attrs, attr(n%70+1, 253))
	}
	if n > 0 {
		p.Attrs = append(p.Attrs, attr(5, n-2))
	}
	return p
}

// packets are in form, small and big, without a Mark.
func packets() []radius.Packet {
	var all []radius.Packet
	for i, code := range []int{1, 2, 3, 11} {
		auth := [16]byte(sample.Filled(16, code))
		all = append(all, radius.Packet{Code: code}, radius.Packet{Code: code, Id: 255, Auth: auth}, full(code, 400), full(code, most-18),
			radius.Packet{Code: code, Id: i, Auth: auth, Attrs: []radius.Attr{attr(1, 1)}},
			radius.Packet{Code: code, Id: i, Auth: auth, Attrs: []radius.Attr{attr(1, 0), attr(255, 253), attr(1, 0), attr(79, 16), attr(26, 252), attr(24, 1)}})
	}
	return all
}

// wrongPackets are not in form, each of them by another part.
func wrongPackets() []radius.Packet {
	var all []radius.Packet
	for _, code := range []int{-1 << 63, -255, -1, 0, 4, 5, 10, 12, 13, 255, 256, 257, 258, 259, 267, 1 << 32, 1<<32 + 2, 1<<63 - 1} {
		all = append(all, radius.Packet{Code: code, Id: 1, Attrs: []radius.Attr{attr(1, 1)}})
	}
	for _, code := range []int{1, 2, 3, 11} {
		for _, id := range []int{-1 << 63, -1, 256, 257, 1 << 40} {
			all = append(all, radius.Packet{Code: code, Id: id})
		}
		for _, a := range []radius.Attr{{Kind: 0}, attr(0, 3), attr(-1, 3), attr(256, 3), attr(257, 0), attr(1<<32+1, 3), attr(1, 254), attr(79, 255), attr(5, 256), attr(1, 5000)} {
			all = append(all, radius.Packet{Code: code, Attrs: []radius.Attr{a}}, radius.Packet{Code: code, Attrs: []radius.Attr{attr(1, 1), a}}, radius.Packet{Code: code, Attrs: []radius.Attr{a, attr(1, 1)}})
		}
		all = append(all, full(code, most+1), full(code, most+2), full(code, 2*most), full(code, 1<<16+20), full(code, 1<<16+25))
	}
	return all
}

// isWritten holds what Write answers of p against the document's words, and has it read again.
func isWritten(t *testing.T, p radius.Packet) {
	t.Helper()
	b, e := radius.Write(p)
	if !isInForm(p) {
		if e != api.ErrForm || len(b) > 0 {
			t.Errorf("%.100s: %.20x, error %d", named(p), b, e)
		}
		return
	}
	if e != api.OK || !bytes.Equal(b, bytesOf(p)) {
		t.Errorf("%.100s: %.40x, not %.40x: error %d", named(p), b, bytesOf(p), e)
	}
	if again, e := radius.Read(bytesOf(p)); e != api.OK || !same(again, p) {
		t.Errorf("%.100s comes back as %.100s: error %d", named(p), named(again), e)
	}
}

// isRead holds what Read answers of b against the document's words; what is read must be written as b.
func isRead(t *testing.T, b []byte) {
	t.Helper()
	want, ok := packetOf(b)
	p, e := radius.Read(b)
	if !same(p, want) || e != api.OK && e != api.ErrForm || ok != (e == api.OK) {
		t.Errorf("%.40x (%d bytes): %.100s, error %d, not %.100s, %v", b, len(b), named(p), e, named(want), ok)
	}
	if e != api.OK {
		return
	}
	if again, e := radius.Write(p); e != api.OK || !bytes.Equal(again, b) {
		t.Errorf("%.40x (%d bytes) is written as %.40x: error %d", b, len(b), again, e)
	}
}

// isReadAs is isRead, where the outcome is plain.
func isReadAs(t *testing.T, b []byte, want api.Errno) {
	t.Helper()
	isRead(t, b)
	if _, e := radius.Read(b); e != want {
		t.Errorf("%.40x (%d bytes): error %d, not %d", b, len(b), e, want)
	}
}
