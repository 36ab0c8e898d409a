package der_test

import (
	"bytes"
	"testing"

	"tollgate/api"
	"tollgate/der"
	"tollgate/sample"
)

// roomyNode is a copy of n whose lists all have spare room behind them that holds marks.
func roomyNode(n der.Node) der.Node {
	kids := make([]der.Node, len(n.Kids)+3)
	for i := range kids {
		kids[i] = der.Node{Tag: 77, Body: []byte("spare")}
	}
	for i, kid := range n.Kids {
		kids[i] = roomyNode(kid)
	}
	return der.Node{Tag: n.Tag, Body: sample.Roomy(n.Body), Kids: kids[:len(n.Kids)]}
}

// isUnchanged tells a fault, if what roomyNode made of want isn't any more what it was.
func isUnchanged(t *testing.T, got, want der.Node) {
	t.Helper()
	if got.Tag != want.Tag || len(got.Kids) != len(want.Kids) {
		t.Errorf("%v was changed: %v", want, got)
		return
	}
	sample.Unchanged(t, "a body", got.Body, want.Body)
	for i, kid := range got.Kids[:cap(got.Kids)] {
		if i < len(want.Kids) {
			isUnchanged(t, kid, want.Kids[i])
		} else if !same(kid, der.Node{Tag: 77, Body: []byte("spare")}) {
			t.Errorf("spare room of %v was changed: %v", want, kid)
		}
	}
}

// spoil overwrites all that n's lists hold, their spare room too.
func spoil(n der.Node) {
	body := n.Body[:cap(n.Body)]
	for i := range body {
		body[i] ^= 0x55
	}
	kids := n.Kids[:cap(n.Kids)]
	for i := range kids {
		spoil(kids[i])
		kids[i] = der.Node{Tag: 99}
	}
}

// sharesNothing: none of the lists in an answer has memory of another's.
func sharesNothing(t *testing.T, n der.Node) {
	t.Helper()
	lists := bodiesOf(n)
	for i, list := range lists {
		list = list[:cap(list)]
		for at := range list {
			list[at] = byte(i)
		}
	}
	for i, list := range lists {
		for _, b := range list[:cap(list)] {
			if b != byte(i) {
				t.Errorf("%v: two bodies share memory", n)
				return
			}
		}
	}
}

func bodiesOf(n der.Node) [][]byte {
	list := [][]byte{n.Body}
	for _, kid := range n.Kids {
		list = append(list, bodiesOf(kid)...)
	}
	return list
}

func TestWriteKeepsAndChangesNothing(t *testing.T) {
	for _, n := range append(nodes(t), der.Node{Tag: der.Bytes, Body: sample.Filled(3000, 1)}, der.Node{Tag: der.Int, Kids: []der.Node{der.Num(1)}},
		der.Node{Tag: der.Seq, Body: []byte("ab"), Kids: []der.Node{der.Num(1)}}) {
		handed := roomyNode(n)
		b, _ := der.Write(handed)
		isUnchanged(t, handed, n)
		kept := bytes.Clone(b)
		spoil(handed)
		if !bytes.Equal(b, kept) {
			t.Errorf("%v: its bytes are its own memory", n)
		}
		handed = roomyNode(n)
		der.ToNum(handed)
		der.ToBig(handed)
		der.ToWord(handed)
		isUnchanged(t, handed, n)
		b, _ = der.Write(handed)
		clear(b[:cap(b)])
		isUnchanged(t, handed, n)
	}
}

func TestReadKeepsAndChangesNothing(t *testing.T) {
	for _, n := range nodes(t) {
		want := bytesOf(t, n)
		handed := sample.Roomy(want)
		got, e := der.Read(handed)
		sample.Unchanged(t, "the bytes", handed, want)
		clear(handed[:cap(handed)])
		if e != api.OK || !same(got, n) {
			t.Errorf("%x is read as %v, error %d", want, got, e)
		}
		handed = sample.Roomy(want)
		got, _ = der.Read(handed)
		again, _ := der.Read(handed)
		spoil(got)
		sample.Unchanged(t, "the bytes", handed, want)
		if !same(again, n) {
			t.Error("two answers share memory")
		}
		sharesNothing(t, again)
	}
	for _, wrong := range [][]byte{nil, {2}, {0x30, 3, 2, 1}, sample.Filled(100, 1), sample.Filled(2049, 2)} {
		handed := sample.Roomy(wrong)
		der.Read(handed)
		sample.Unchanged(t, "wrong bytes", handed, wrong)
	}
}

func TestOf(t *testing.T) {
	all := nodes(t)
	for _, tag := range append([]int{0, -1, 5, 0x131, 1 << 40}, append(madeOfBytes(), madeOfOthers()...)...) {
		for _, kids := range [][]der.Node{nil, {}, all[:1], all[:20], all, {{}, {Tag: 5, Body: []byte("x"), Kids: all}}} {
			n := der.Of(tag, kids...)
			if !same(n, der.Node{Tag: tag, Kids: kids}) {
				t.Errorf("of tag %x: %v", tag, n)
			}
		}
	}
	if n := der.Of(der.Seq); !same(n, der.Node{Tag: der.Seq}) {
		t.Errorf("of nothing: %v", n)
	}
}

func TestOfKeepsAndChangesNothing(t *testing.T) {
	all := append(nodes(t), der.Node{}, der.Node{Tag: 5, Body: []byte("x"), Kids: nodes(t)})
	want := der.Node{Tag: der.Seq, Kids: all}
	handed := roomyNode(want)
	n := der.Of(der.Seq, handed.Kids...)
	isUnchanged(t, handed, want)
	spoil(handed)
	if !same(n, want) {
		t.Error("what was handed in is kept")
	}
	handed = roomyNode(want)
	n, again := der.Of(der.Seq, handed.Kids...), der.Of(der.Seq, handed.Kids...)
	spoil(n)
	isUnchanged(t, handed, want)
	if !same(again, want) {
		t.Error("two answers share memory")
	}
}

// The same kid twice becomes two.
func TestOfTheSameKids(t *testing.T) {
	kid := der.Node{Tag: der.Seq, Kids: []der.Node{der.Word("same"), {Tag: der.Bytes, Body: []byte("b")}}}
	n := der.Of(der.Seq, kid, kid, der.Node{Tag: der.Part0, Kids: []der.Node{kid, kid}})
	sharesNothing(t, n)
	n.Kids[0].Kids[0] = der.Node{}
	if isNone(n.Kids[1].Kids[0]) || isNone(kid.Kids[0]) {
		t.Error("two kids share memory")
	}
}

func TestOfManyAndDeepKids(t *testing.T) {
	many := der.Of(der.Seq, times(100000, der.Word("kid"))...)
	if len(many.Kids) != 100000 || !same(many.Kids[99999], der.Word("kid")) {
		t.Error("of many kids")
	}
	deep := chain(1<<16-1, der.Word("deep"))
	if n := der.Of(der.Seq, deep); !same(n, der.Node{Tag: der.Seq, Kids: []der.Node{deep}}) {
		t.Error("of a deep kid")
	}
}

// Num, Big and Word answer new memory each time.
func TestNumbersAreNewMemory(t *testing.T) {
	for _, of := range []func() der.Node{
		func() der.Node { return der.Num(0) },
		func() der.Node { return der.Num(1 << 40) },
		func() der.Node { return der.Big([32]byte{}) },
		func() der.Node { return der.Big([32]byte{31: 200}) },
		func() der.Node { return der.Big([32]byte{0: 1}) },
		func() der.Node { return der.Word("word") },
	} {
		n, again := of(), of()
		spoil(n)
		if same(n, again) || !same(of(), again) {
			t.Errorf("%v and %v share memory", n, again)
		}
	}
}
