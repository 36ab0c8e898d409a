package der_test

import (
	"bytes"
	"encoding/asn1"
	"slices"
	"testing"

	"tollgate/api"
	"tollgate/der"
	"tollgate/sample"
)

// madeOfOthers and madeOfBytes are the tags there are.
func madeOfOthers() []int { return []int{0x30, 0xA0, 0xA1, 0xA2, 0xA3} }
func madeOfBytes() []int  { return []int{0x01, 0x02, 0x03, 0x04, 0x06, 0x0C} }

// bodies are those that may stand behind a tag, and those that may not, base 16.
type bodies struct {
	tag       int
	good, bad []string
}

func allBodies() []bodies {
	return []bodies{
		{der.Bool, []string{"00", "FF"}, []string{"", "01", "7F", "80", "FE", "00 00", "FF FF", "00 FF"}},
		{der.Int,
			[]string{"00", "01", "7F", "80", "FF", "00 80", "00 FF", "FF 7F", "FF 00", "01 00", "80 00", "FE 80", "7F FF", "80 80", "00 80 00", "FF 7F FF"},
			[]string{"", "00 00", "00 01", "00 7F", "FF FF", "FF 80", "00 00 80", "FF FF 7F", "00 7F FF", "FF 80 00"}},
		{der.Bits,
			[]string{"00", "00 00", "00 01", "00 FF", "01 00", "01 FE", "02 FC", "03 F8", "04 F0", "05 E0", "06 C0", "07 80", "07 00", "07 FF 80", "00 FF FF", "04 0F F0"},
			[]string{"", "01", "07", "08", "FF", "08 00", "80 00", "FF 00", "01 01", "01 FF", "02 02", "02 FE", "03 04", "04 08", "05 10", "06 20", "07 40", "07 C0", "07 01", "07 80 40", "04 F0 08"}},
		{der.Bytes, []string{"", "00", "FF", "30 00", "80 80", "05"}, nil},
		{der.Oid,
			[]string{"00", "7F", "01", "55 04 03", "81 00", "FF 7F", "81 80 00", "81 80 80 01", "00 81 00", "2A 86 48", "7F FF 80 7F"},
			[]string{"", "80", "81", "FF", "80 00", "80 81 00", "00 80", "00 80 00", "7F 80 01", "55 04 83", "2A 86 80", "81 00 80 00", "80 80 00"}},
		{der.Text, []string{"", "20", "7E", "61 62", "20 20 7E", "30"}, []string{"1F", "7F", "00", "80", "FF", "61 0A", "0A 61", "61 1F 61", "C3 A9"}},
	}
}

// nodes are some that are in form, of all kinds.
func nodes(t *testing.T) []der.Node {
	t.Helper()
	var list []der.Node
	for _, of := range allBodies() {
		for _, body := range of.good {
			list = append(list, der.Node{Tag: of.tag, Body: sample.Bytes(t, body)})
		}
	}
	few := slices.Clone(list)
	for i, tag := range madeOfOthers() {
		list = append(list, der.Node{Tag: tag}, der.Node{Tag: tag, Kids: few[7*i : 7*i+5]})
		list = append(list, der.Node{Tag: tag, Kids: slices.Clone(list[len(few):])})
	}
	return append(list, der.Node{Tag: der.Seq, Kids: few[len(few)-20:]}, chain(8, der.Node{Tag: der.Text, Body: []byte("deep")}),
		der.Node{Tag: der.Bytes, Body: sample.Filled(127, 1)}, der.Node{Tag: der.Bytes, Body: sample.Filled(128, 1)},
		der.Node{Tag: der.Seq, Kids: []der.Node{{Tag: der.Bytes, Body: sample.Filled(300, 1)}, {Tag: der.Bits, Body: []byte{0}}}})
}

// chain is so deep a node: in is the innermost of it.
func chain(deep int, in der.Node) der.Node {
	tags := madeOfOthers()
	for i := 1; i < deep; i++ {
		in = der.Node{Tag: tags[i%len(tags)], Kids: []der.Node{in}}
	}
	return in
}

// times is a list of the same node so often.
func times(n int, of der.Node) []der.Node {
	list := make([]der.Node, n)
	for i := range list {
		list[i] = of
	}
	return list
}

// bytesOf is what Write must answer of a node that is in form and small, by Go's library.
func bytesOf(t *testing.T, n der.Node) []byte {
	t.Helper()
	inner := bytes.Clone(n.Body)
	for _, kid := range n.Kids {
		inner = append(inner, bytesOf(t, kid)...)
	}
	b, err := asn1.Marshal(asn1.RawValue{Class: n.Tag >> 6, IsCompound: n.Tag&0x20 != 0, Tag: n.Tag & 0x1F, Bytes: inner})
	if err != nil {
		t.Fatal(err)
	}
	return b
}

// same: are they one, where nil and empty lists are?
func same(a, b der.Node) bool {
	if a.Tag != b.Tag || !bytes.Equal(a.Body, b.Body) || len(a.Kids) != len(b.Kids) {
		return false
	}
	for i := range a.Kids {
		if !same(a.Kids[i], b.Kids[i]) {
			return false
		}
	}
	return true
}

func isNone(n der.Node) bool { return n.Tag == 0 && len(n.Body) == 0 && len(n.Kids) == 0 }

// comesBack: n is in form: its bytes are those that the library says, and it is read from them.
func comesBack(t *testing.T, n der.Node) []byte {
	t.Helper()
	want := bytesOf(t, n)
	b, e := der.Write(n)
	if e != api.OK || !bytes.Equal(b, want) {
		t.Errorf("%v is written as %.99x, not %.99x: error %d", n, b, want, e)
	}
	m, e := der.Read(want)
	if e != api.OK || !same(m, n) {
		t.Errorf("%.99x is read as %v, not %v: error %d", want, m, n, e)
	}
	return want
}

func isNotWritten(t *testing.T, want api.Errno, n der.Node, what string) {
	t.Helper()
	if b, e := der.Write(n); e != want || len(b) > 0 {
		t.Errorf("%s is written as %.99x: error %d, not %d", what, b, e, want)
	}
}

func isNotRead(t *testing.T, want api.Errno, b []byte, what string) {
	t.Helper()
	if n, e := der.Read(b); e != want || !isNone(n) {
		t.Errorf("%s: %.99x is read as %v: error %d, not %d", what, b, n, e, want)
	}
}

// isOutOfForm: it is neither written nor read.
func isOutOfForm(t *testing.T, n der.Node, what string) {
	t.Helper()
	isNotWritten(t, api.ErrForm, n, what)
	isNotRead(t, api.ErrForm, bytesOf(t, n), what)
}
