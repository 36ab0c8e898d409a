package eap_test

import (
	"bytes"
	"testing"

	"tollgate/api"
	"tollgate/eap"
	"tollgate/sample"
)

func spoil(b []byte) {
	b = b[:cap(b)]
	for i := range b {
		b[i] ^= 0xA5
	}
}

// roomy is a copy of p, whose Data has spare room with marks in it.
func roomy(p eap.Packet) eap.Packet {
	p.Data = sample.Roomy(p.Data)
	return p
}

func TestWriteKeepsAndChangesNothing(t *testing.T) {
	for _, p := range append(packets(), wrongPackets()...) {
		handed := roomy(p)
		b, _ := eap.Write(handed)
		again, _ := eap.Write(handed)
		sample.Unchanged(t, named(p), handed.Data, p.Data)
		spoil(again)
		sample.Unchanged(t, named(p), handed.Data, p.Data)
		spoil(handed.Data)
		if isInForm(p) && !bytes.Equal(b, bytesOf(p)) {
			t.Errorf("%s: an answer isn't new memory", named(p))
		}
		isWritten(t, p)
	}
}

func TestReadKeepsAndChangesNothing(t *testing.T) {
	for _, want := range packets() {
		b := bytesOf(want)
		handed := sample.Roomy(b)
		p, e := eap.Read(handed)
		again, _ := eap.Read(handed)
		sample.Unchanged(t, named(want), handed, b)
		spoil(again.Data)
		sample.Unchanged(t, named(want), handed, b)
		spoil(handed)
		if e != api.OK || !same(p, want) {
			t.Errorf("%s: an answer isn't new memory: error %d", named(want), e)
		}
		isRead(t, b)
	}
}

func TestReadOfWrongBytesChangesNothing(t *testing.T) {
	for _, p := range packets() {
		b := bytesOf(p)
		for _, wrong := range [][]byte{b[:3], b[:len(b)-1], append(bytes.Clone(b), 0), put(5, 1, 4), put(p.Code, 1, 3, b...), make([]byte, len(b))} {
			handed := sample.Roomy(wrong)
			if got, e := eap.Read(handed); e == api.OK || !same(got, eap.Packet{}) || got.Data != nil {
				t.Errorf("%.20x: %s, error %d", wrong, named(got), e)
			}
			sample.Unchanged(t, "wrong bytes", handed, wrong)
		}
	}
}
