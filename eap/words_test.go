package eap_test

import (
	"bytes"
	"fmt"
	"slices"
	"testing"

	"tollgate/api"
	"tollgate/eap"
	"tollgate/sample"
)

// most is the document's own number: how many bytes a packet has at most.
const most = 4096

// isInForm is what the document says of a packet.
func isInForm(p eap.Packet) bool {
	if p.Id < 0 || p.Id > 255 {
		return false
	}
	if p.Code == 1 || p.Code == 2 {
		return p.Type >= 1 && p.Type <= 255 && 5+len(p.Data) <= most
	}
	return (p.Code == 3 || p.Code == 4) && p.Type == 0 && len(p.Data) == 0
}

// bytesOf is what the document says of the bytes of a packet in form.
func bytesOf(p eap.Packet) []byte {
	count := 4
	if p.Code < 3 {
		count = 5 + len(p.Data)
	}
	b := []byte{byte(p.Code), byte(p.Id), byte(count / 256), byte(count % 256)}
	if p.Code < 3 {
		b = slices.Concat(b, []byte{byte(p.Type)}, p.Data)
	}
	return b
}

// packetOf is what Read must answer of these bytes, by the document's words.
func packetOf(b []byte) (eap.Packet, api.Errno) {
	if len(b) < 4 || len(b) < 256*int(b[2])+int(b[3]) {
		return eap.Packet{}, api.ErrTail
	}
	if len(b) > 256*int(b[2])+int(b[3]) || len(b) > most {
		return eap.Packet{}, api.ErrForm
	}
	p := eap.Packet{Code: int(b[0]), Id: int(b[1])}
	switch {
	case (b[0] == 3 || b[0] == 4) && len(b) == 4:
		return p, api.OK
	case (b[0] == 1 || b[0] == 2) && len(b) > 4 && b[4] > 0:
		p.Type, p.Data = int(b[4]), b[5:]
		return p, api.OK
	}
	return eap.Packet{}, api.ErrForm
}

func same(a, b eap.Packet) bool {
	return a.Code == b.Code && a.Id == b.Id && a.Type == b.Type && bytes.Equal(a.Data, b.Data)
}

func named(p eap.Packet) string {
	return fmt.Sprintf("Code %d, Id %d, Type %d, %d bytes of Data", p.Code, p.Id, p.Type, len(p.Data))
}

// isWritten holds what Write answers of p against the document's words, and has it read again.
func isWritten(t *testing.T, p eap.Packet) {
	t.Helper()
	b, e := eap.Write(p)
	if !isInForm(p) {
		if e != api.ErrForm || len(b) > 0 {
			t.Errorf("%s: %.20x, error %d", named(p), b, e)
		}
		return
	}
	if e != api.OK || !bytes.Equal(b, bytesOf(p)) {
		t.Errorf("%s: %.20x, not %.20x: error %d", named(p), b, bytesOf(p), e)
	}
	if again, e := eap.Read(bytesOf(p)); e != api.OK || !same(again, p) {
		t.Errorf("%s comes back as %s: error %d", named(p), named(again), e)
	}
}

// isRead holds what Read answers of b against the document's words; what is read must be written as b.
func isRead(t *testing.T, b []byte) {
	t.Helper()
	want, wantE := packetOf(b)
	p, e := eap.Read(b)
	if e != wantE || !same(p, want) {
		t.Errorf("%.20x (%d bytes): %s, error %d, not %s, error %d", b, len(b), named(p), e, named(want), wantE)
	}
	if e != api.OK {
		return
	}
	if again, e := eap.Write(p); e != api.OK || !bytes.Equal(again, b) {
		t.Errorf("%.20x (%d bytes) is written as %.20x: error %d", b, len(b), again, e)
	}
}

// isReadAs is isRead, where the error is plain.
func isReadAs(t *testing.T, b []byte, want api.Errno) {
	t.Helper()
	isRead(t, b)
	if _, e := eap.Read(b); e != want {
		t.Errorf("%.20x (%d bytes): error %d, not %d", b, len(b), e, want)
	}
}

// packets are in form, small and big.
func packets() []eap.Packet {
	all := []eap.Packet{{Code: 3}, {Code: 4}, {Code: 3, Id: 255}, {Code: 4, Id: 7}}
	for code := 1; code <= 2; code++ {
		for _, n := range []int{0, 1, 3, 50, 250, 251, 252, 253, 1000, most - 6, most - 5} {
			all = append(all, eap.Packet{Code: code, Id: n % 256, Type: 1 + n%255, Data: sample.Filled(n, code)})
		}
		all = append(all, eap.Packet{Code: code, Type: 255, Data: make([]byte, 4)}, eap.Packet{Code: code, Id: 255, Type: 1})
	}
	return all
}

// wrongPackets are not in form, each of them by another part.
func wrongPackets() []eap.Packet {
	data := []byte("bob")
	return []eap.Packet{
		{}, {Code: 5}, {Code: -1, Type: 1, Data: data}, {Code: 257, Type: 1, Data: data}, {Code: 1, Data: data}, {Code: 2, Type: 256, Data: data},
		{Code: 1, Id: 256, Type: 1, Data: data}, {Code: 2, Id: -1, Type: 1, Data: data}, {Code: 3, Data: data}, {Code: 4, Type: 1}, {Code: 3, Type: 1, Data: data},
		{Code: 3, Id: 256}, {Code: 1, Type: 1, Data: make([]byte, most-4)}, {Code: 4, Data: make([]byte, 1)},
	}
}
