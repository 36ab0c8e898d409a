package radius_test

import (
	"bytes"
	"math/rand"
	"slices"
	"testing"

	"tollgate/api"
	"tollgate/radius"
	"tollgate/sample"
)

func TestExample(t *testing.T) {
	p := radius.Packet{Code: radius.Ask, Id: 1, Attrs: []radius.Attr{{Kind: radius.User, Value: []byte("a")}}}
	b, e := radius.Write(p)
	if want := sample.Bytes(t, "01 01 0017 00000000 00000000 00000000 00000000 01 03 61"); e != api.OK || !bytes.Equal(b, want) {
		t.Errorf("%x, error %d", b, e)
	}
}

// Two packets of RFC 2865 (7.1), and the answer's Auth.
func TestStandardsPackets(t *testing.T) {
	ask := sample.Bytes(t, "01000038 0f403f9473978057bd83d5cb98f4227a 01066e656d6f 02120dbe708d93d413ce3196e43f782a0aee 0406c0a80110 050600000003")
	answer := sample.Bytes(t, "02000026 86fe220e7624ba2a1005f6bf9b55e0b2 060600000001 0f0600000000 0e06c0a80103")
	p, e := radius.Read(ask)
	if name, ok := radius.Find(p.Attrs, radius.User); e != api.OK || p.Code != radius.Ask || p.Id != 0 || len(p.Attrs) != 4 || !ok || string(name) != "nemo" {
		t.Errorf("%s, error %d", named(p), e)
	}
	isReadAs(t, answer, api.OK)
	if !bytes.Equal(answered(answer, p.Auth, []byte("xyzzy5461")), answer) {
		t.Error("the test's own Auth isn't the standard's")
	}
	// They have no Mark.
	if _, e := radius.Open(ask, []byte("xyzzy5461")); e != api.ErrMac {
		t.Errorf("error %d", e)
	}
	if _, e := radius.Opened(answer, p.Auth, []byte("xyzzy5461")); e != api.ErrMac {
		t.Errorf("error %d", e)
	}
	// RFC 5997 (6.1) has one with a Mark, of a code that this document doesn't have.
	other := sample.Bytes(t, "0cda0026 8a54f4686fb394c52866e302185d0623 50125a665e2e1e8411f3e243822097c84fa3")
	if !bytes.Equal(marked(other, []byte("xyzzy5461")), other) {
		t.Error("the test's own Mark isn't the standard's")
	}
	isReadAs(t, other, api.ErrForm)
}

func TestConstants(t *testing.T) {
	got := []int{radius.Ask, radius.Accept, radius.Reject, radius.Challenge, radius.User, radius.State, radius.Vendor, radius.Eap, radius.Mark}
	if !slices.Equal(got, []int{1, 2, 3, 11, 1, 24, 26, 79, 80}) {
		t.Error(got)
	}
}

func TestWriteOfPackets(t *testing.T) {
	for _, p := range packets() {
		if !isInForm(p) {
			t.Fatal(named(p))
		}
		isWritten(t, p)
	}
	for _, p := range wrongPackets() {
		if isInForm(p) {
			t.Fatalf("%.100s", named(p))
		}
		isWritten(t, p)
	}
}

func TestWriteOfAllNumbers(t *testing.T) {
	for n := -3; n < 260; n++ {
		isWritten(t, radius.Packet{Code: n})
		for _, code := range []int{1, 2, 3, 11} {
			isWritten(t, radius.Packet{Code: code, Id: n})
			isWritten(t, radius.Packet{Code: code, Attrs: []radius.Attr{{Kind: n}}})
			isWritten(t, radius.Packet{Code: code, Attrs: []radius.Attr{attr(1, max(n, 0))}})
		}
	}
}

// Nil and empty lists are one.
func TestWriteOfNothing(t *testing.T) {
	for _, p := range []radius.Packet{{Code: 2}, {Code: 2, Attrs: []radius.Attr{}}} {
		isWritten(t, p)
	}
	for _, v := range [][]byte{nil, {}} {
		isWritten(t, radius.Packet{Code: 2, Attrs: []radius.Attr{{Kind: 9, Value: v}}})
	}
}

// As many bytes as there may be, and one more.
func TestWriteAtTheMost(t *testing.T) {
	for n := most - 30; n <= most+30; n++ {
		p := full(2, n)
		if isInForm(p) {
			if b := bytesOf(p); len(b) != n || n > most {
				t.Fatalf("%d bytes, not %d", len(b), n)
			}
		} else if n <= most {
			t.Fatalf("%d bytes are too many", n)
		}
		isWritten(t, p)
	}
	// Attributes that hold nothing count, too.
	for _, n := range []int{2037, 2038, 2039, 1 << 16, 1 << 20} {
		p := radius.Packet{Code: 3}
		for range n {
			p.Attrs = append(p.Attrs, radius.Attr{Kind: 4})
		}
		isWritten(t, p)
	}
}

func TestReadOfPackets(t *testing.T) {
	for _, p := range append(packets(), full(11, most), full(1, most), with(full(2, 90), markKind), with(full(1, 90), markKind, make([]byte, 16)...)) {
		isReadAs(t, bytesOf(p), api.OK)
	}
}

func TestReadOfTooMany(t *testing.T) {
	for _, n := range []int{most + 1, most + 2, 5000, 1 << 15, 1<<16 - 1} {
		isReadAs(t, bytesOf(full(2, n)), api.ErrForm)
	}
	for _, n := range []int{1 << 16, 1<<16 + 20, 1<<16 + 4096, 1 << 20} {
		isReadAs(t, bytesOf(full(2, n)), api.ErrForm)
		isReadAs(t, make([]byte, n), api.ErrForm)
	}
}

// Short beginnings, bytes left out, bytes behind, and each byte changed in each way.
func TestReadOfChangedBytes(t *testing.T) {
	for _, p := range []radius.Packet{{Code: 1}, full(2, 60), {Code: 11, Id: 3, Attrs: []radius.Attr{attr(1, 0), attr(79, 3), attr(80, 16), attr(255, 1)}}} {
		right := bytesOf(p)
		for n := range right {
			isReadAs(t, right[:n], api.ErrForm)
			isRead(t, slices.Concat(right[:n], right[n+1:]))
			for x := range 256 {
				b := bytes.Clone(right)
				b[n] = byte(x)
				isRead(t, b)
				isRead(t, slices.Concat(right[:n], []byte{byte(x)}, right[n:]))
			}
		}
		for _, behind := range [][]byte{{0}, {1, 2}, {1, 2, 0}, make([]byte, 20), right} {
			isReadAs(t, slices.Concat(right, behind), api.ErrForm)
		}
	}
}

// Attributes of any three bytes, with the right count of all.
func TestReadOfAllSmallAttributes(t *testing.T) {
	counted := func(attrs ...byte) []byte {
		n := 20 + len(attrs)
		return slices.Concat([]byte{2, 7, byte(n / 256), byte(n % 256)}, make([]byte, 16), attrs)
	}
	isReadAs(t, counted(), api.OK)
	for a := range 256 {
		isReadAs(t, counted(byte(a)), api.ErrForm)
		for b := range 256 {
			isRead(t, counted(byte(a), byte(b)))
			isRead(t, counted(byte(a), byte(b), 9))
			isRead(t, counted(byte(a), byte(b), 4, 2))
			isRead(t, counted(5, 3, 1, byte(a), byte(b)))
			isRead(t, counted(slices.Concat([]byte{byte(a), byte(b)}, sample.Filled(253, a))...))
		}
	}
	for _, wrong := range [][]byte{{1, 0}, {1, 1}, {1, 3}, {1, 4, 9}, {0, 2}, {0, 3, 5}, {5, 2, 0, 2}, {5, 2, 6, 3}, {5, 2, 6, 1}, {5, 2, 6, 0}} {
		isReadAs(t, counted(wrong...), api.ErrForm)
	}
	for _, right := range [][]byte{{1, 2}, {255, 2}, {1, 3, 0}, {5, 2, 6, 2}, {80, 2}, {80, 2, 80, 2}} {
		isReadAs(t, counted(right...), api.OK)
	}
}

func TestReadOfAnyBytes(t *testing.T) {
	r := rand.New(rand.NewSource(5))
	for i := range 20000 {
		b := sample.Filled(r.Intn(70), i)
		if len(b) >= 20 && r.Intn(10) > 0 {
			b[0] = []byte{1, 2, 3, 11}[r.Intn(4)]
			b[2], b[3] = 0, byte(len(b))
			for at := 21; at < len(b); at += int(b[at]) {
				b[at] = byte(2 + r.Intn(8))
			}
		}
		isRead(t, b)
	}
}

func TestReadOfNothing(t *testing.T) {
	isReadAs(t, nil, api.ErrForm)
	isReadAs(t, []byte{}, api.ErrForm)
}
