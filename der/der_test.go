package der_test

import (
	"bytes"
	"fmt"
	"slices"
	"testing"

	"tollgate/api"
	"tollgate/der"
	"tollgate/sample"
)

func TestKnownBytes(t *testing.T) {
	for _, c := range []struct {
		n    der.Node
		want string
	}{
		{der.Of(der.Seq, der.Num(5), der.Word("ab")), "30 07 02 01 05 0C 02 61 62"},
		{der.Num(128), "02 02 00 80"},
		{der.Num(0), "02 01 00"},
		{der.Of(der.Seq), "30 00"},
		{der.Of(der.Part0, der.Num(2)), "A0 03 02 01 02"},
		{der.Of(0xA1, der.Of(0xA2)), "A1 02 A2 00"},
		{der.Of(der.Part3, der.Word("")), "A3 02 0C 00"},
		{der.Node{Tag: der.Bool, Body: []byte{0xFF}}, "01 01 FF"},
		{der.Node{Tag: der.Bits, Body: []byte{3, 0x18}}, "03 02 03 18"},
		{der.Node{Tag: der.Bytes}, "04 00"},
		{der.Node{Tag: der.Oid, Body: []byte{0x55, 4, 3}}, "06 03 55 04 03"},
	} {
		want := sample.Bytes(t, c.want)
		if b, e := der.Write(c.n); e != api.OK || !bytes.Equal(b, want) {
			t.Errorf("%v: %x, not %x, error %d", c.n, b, want, e)
		}
		if n, e := der.Read(want); e != api.OK || !same(n, c.n) {
			t.Errorf("%x: %v, not %v, error %d", want, n, c.n, e)
		}
	}
}

func TestNodesComeBack(t *testing.T) {
	seen := map[string]bool{}
	for _, n := range nodes(t) {
		b := comesBack(t, n)
		if seen[string(b)] {
			t.Errorf("%x stands for two nodes", b)
		}
		seen[string(b)] = true
	}
}

func TestBodies(t *testing.T) {
	for _, of := range allBodies() {
		for _, body := range of.good {
			n := der.Node{Tag: of.tag, Body: sample.Bytes(t, body)}
			comesBack(t, n)
			comesBack(t, der.Of(der.Seq, der.Num(1), n))
		}
		for _, body := range of.bad {
			n := der.Node{Tag: of.tag, Body: sample.Bytes(t, body)}
			isOutOfForm(t, n, fmt.Sprintf("tag %x and %s", of.tag, body))
			isOutOfForm(t, der.Of(der.Part3, der.Num(1), n), fmt.Sprintf("one with tag %x and %s in it", of.tag, body))
		}
	}
}

// Each bit of a last byte is tried against each number of bits that don't count.
func TestBitsThatDoNotCount(t *testing.T) {
	for rest := range 256 {
		for last := range 256 {
			n := der.Node{Tag: der.Bits, Body: []byte{byte(rest), 0xFF, byte(last)}}
			if rest <= 7 && last%(1<<rest) == 0 {
				comesBack(t, n)
			} else {
				isOutOfForm(t, n, "bits")
			}
		}
	}
}

func TestTags(t *testing.T) {
	for tag := -300; tag <= 600; tag++ {
		empty, full := der.Node{Tag: tag}, der.Node{Tag: tag, Body: []byte{0}}
		above := der.Node{Tag: tag, Kids: []der.Node{der.Num(1)}}
		what := fmt.Sprintf("tag %x", tag)
		switch {
		case slices.Contains(madeOfOthers(), tag):
			comesBack(t, empty)
			comesBack(t, above)
			isNotWritten(t, api.ErrForm, full, what+" with a body")
		case slices.Contains(madeOfBytes(), tag):
			isNotWritten(t, api.ErrForm, above, what+" with kids")
			if tag != der.Text {
				comesBack(t, full)
			}
		default:
			isNotWritten(t, api.ErrForm, empty, what)
			isNotWritten(t, api.ErrForm, full, what)
			isNotWritten(t, api.ErrForm, above, what)
			if tag >= 0 && tag <= 255 {
				isNotRead(t, api.ErrForm, []byte{byte(tag), 0}, what)
				isNotRead(t, api.ErrForm, []byte{byte(tag), 1, 0}, what)
				isNotRead(t, api.ErrForm, []byte{byte(tag), 3, 2, 1, 1}, what)
			}
		}
	}
}

func TestBodyAndKids(t *testing.T) {
	kids := []der.Node{der.Num(1)}
	for _, of := range allBodies() {
		for _, body := range of.good {
			b := sample.Bytes(t, body)
			isNotWritten(t, api.ErrForm, der.Node{Tag: of.tag, Body: b, Kids: kids}, "bytes with kids")
			if n := (der.Node{Tag: of.tag, Body: b, Kids: []der.Node{}}); bytes.Equal(comesBack(t, n), nil) {
				t.Error("no bytes")
			}
		}
	}
	for _, tag := range madeOfOthers() {
		isNotWritten(t, api.ErrForm, der.Node{Tag: tag, Body: []byte{2, 1, 5}}, "others with a body")
		isNotWritten(t, api.ErrForm, der.Node{Tag: tag, Body: []byte{0}, Kids: kids}, "others with a body and kids")
		comesBack(t, der.Node{Tag: tag, Body: []byte{}, Kids: []der.Node{}})
		comesBack(t, der.Node{Tag: tag, Body: []byte{}, Kids: kids})
	}
}

func TestHowManyKids(t *testing.T) {
	for _, tag := range madeOfOthers() {
		for _, kid := range []der.Node{der.Num(1), der.Of(der.Seq), der.Of(der.Part0, der.Word("a")), {Tag: der.Bytes}} {
			for _, n := range []int{0, 1, 19, 20} {
				comesBack(t, der.Node{Tag: tag, Kids: times(n, kid)})
				comesBack(t, der.Of(der.Seq, der.Node{Tag: tag, Kids: times(n, kid)}))
			}
			for _, n := range []int{21, 22, 100} {
				isOutOfForm(t, der.Node{Tag: tag, Kids: times(n, kid)}, "too many kids")
				isOutOfForm(t, der.Of(der.Seq, der.Num(1), der.Node{Tag: tag, Kids: times(n, kid)}), "one with too many kids")
			}
		}
	}
	comesBack(t, der.Node{Tag: der.Seq, Kids: times(20, der.Node{Tag: der.Seq, Kids: times(20, der.Num(1))})})
}

func TestEachKidIsInForm(t *testing.T) {
	for i := range 20 {
		for _, bad := range []der.Node{{}, {Tag: 5}, {Tag: der.Int}, {Tag: der.Seq, Kids: []der.Node{{Tag: der.Bool}}}} {
			kids := times(20, der.Num(7))
			kids[i] = bad
			isNotWritten(t, api.ErrForm, der.Node{Tag: der.Seq, Kids: kids}, "a kid that isn't in form")
		}
	}
}

func TestHowDeep(t *testing.T) {
	for _, in := range []der.Node{der.Num(1), der.Of(der.Seq), der.Of(der.Part3), {Tag: der.Bytes}, der.Word("deep")} {
		for deep := 1; deep <= 8; deep++ {
			comesBack(t, chain(deep, in))
			comesBack(t, der.Of(der.Seq, der.Num(1), chain(min(deep, 7), in), der.Num(2)))
		}
		for deep := 9; deep <= 12; deep++ {
			isOutOfForm(t, chain(deep, in), "too deep a node")
		}
		isOutOfForm(t, der.Of(der.Seq, der.Num(1), chain(8, in), der.Num(2)), "too deep a kid")
		isOutOfForm(t, chain(300, in), "much too deep a node")
	}
}

// A list that holds itself is deeper than any limit.
func TestRings(t *testing.T) {
	for _, n := range []int{1, 2, 20, 21} {
		ring := make([]der.Node, n)
		for i := range ring {
			ring[i] = der.Node{Tag: der.Seq, Kids: ring}
		}
		isNotWritten(t, api.ErrForm, ring[0], "a ring")
		der.Of(der.Seq, ring...)
		for _, tag := range []int{der.Int, der.Text} {
			within := der.Node{Tag: tag, Body: []byte("1"), Kids: ring}
			isNoNum(t, within, "a ring")
			isNoBig(t, within, "a ring")
			isNoWord(t, within, "a ring")
		}
	}
}

func TestHowManyBytes(t *testing.T) {
	for _, n := range []int{0, 1, 126, 127, 128, 129, 254, 255, 256, 257, 258, 1000, 2000, 2040, 2043, 2044} {
		of := der.Node{Tag: der.Bytes, Body: sample.Filled(n, 5)}
		comesBack(t, of)
		if n <= 2040 {
			comesBack(t, der.Of(der.Part0, of))
		}
	}
	// Both counts take three bytes, behind a tag.
	if n := len(comesBack(t, der.Of(der.Seq, der.Node{Tag: der.Bytes, Body: sample.Filled(2040, 6)}))); n != 2048 {
		t.Errorf("%d bytes", n)
	}
	for _, n := range []int{2045, 2046, 3000, 70000} {
		of := der.Node{Tag: der.Bytes, Body: sample.Filled(n, 5)}
		isNotWritten(t, api.ErrBig, of, "too big a node")
		isNotRead(t, api.ErrBig, bytesOf(t, of), "too big a node")
	}
	of := der.Of(der.Seq, der.Node{Tag: der.Bytes, Body: sample.Filled(2041, 6)})
	isNotWritten(t, api.ErrBig, of, "one with too big a node")
	isNotRead(t, api.ErrBig, bytesOf(t, of), "one with too big a node")
}

// None is too big, all together are.
func TestManyBytesTogether(t *testing.T) {
	hundred := der.Node{Tag: der.Text, Body: bytes.Repeat([]byte("x"), 98)}
	kids := append(times(19, hundred), times(1, hundred)...)
	for n := 98; n <= 160; n++ {
		kids[19].Body = bytes.Repeat([]byte("y"), n)
		of := der.Node{Tag: der.Seq, Kids: kids}
		want := bytesOf(t, of)
		switch {
		case len(want) <= 2048:
			comesBack(t, of)
		default:
			isNotWritten(t, api.ErrBig, of, "too big together")
			isNotRead(t, api.ErrBig, want, "too big together")
		}
	}
	wide := der.Num(1)
	for range 5 {
		wide = der.Node{Tag: der.Seq, Kids: times(20, wide)}
	}
	isNotWritten(t, api.ErrBig, wide, "millions of nodes")
}

func TestFormIsLookedAtAheadOfSize(t *testing.T) {
	big := der.Node{Tag: der.Bytes, Body: make([]byte, 5000)}
	for _, bad := range []der.Node{
		{Tag: der.Text, Body: make([]byte, 5000)},
		{Tag: der.Int, Body: make([]byte, 5000)},
		{Tag: der.Bytes, Body: big.Body, Kids: []der.Node{big}},
		der.Of(der.Seq, big, der.Node{Tag: 5}),
		der.Of(der.Seq, big, der.Of(der.Seq, der.Node{Tag: der.Bool})),
		der.Of(der.Seq, big, chain(8, der.Num(1))),
		{Tag: der.Seq, Kids: times(21, big)},
	} {
		isNotWritten(t, api.ErrForm, bad, "what is neither in form nor small")
	}
	isNotRead(t, api.ErrBig, make([]byte, 2049), "2049 noughts")
	isNotRead(t, api.ErrForm, make([]byte, 2048), "2048 noughts")
	isNotRead(t, api.ErrBig, make([]byte, 1<<20), "a million noughts")
	small := comesBack(t, der.Num(1))
	isNotRead(t, api.ErrBig, append(small, make([]byte, 2046)...), "a node and noughts")
}

// A count in more bytes than it takes is none, nor is one without an end.
func TestCountsInMoreBytes(t *testing.T) {
	for _, n := range []int{0, 1, 5, 126, 127, 128, 129, 255, 256, 257, 1000} {
		inner := sample.Filled(n, 9)
		digits := []byte{byte(n >> 24), byte(n >> 16), byte(n >> 8), byte(n)}
		for size := range 12 {
			count := append(make([]byte, max(size-4, 0)), digits[max(4-size, 0):]...)
			if n>>(8*size) > 0 {
				continue
			}
			count = append([]byte{0x80 + byte(size)}, count...)
			b := slices.Concat([]byte{der.Bytes}, count, inner)
			in := slices.Concat([]byte{der.Seq}, []byte{0x82, byte(len(b) >> 8), byte(len(b))}, b)
			if n >= 128 && n>>(8*(size-1)) > 0 {
				if m, e := der.Read(b); e != api.OK || !bytes.Equal(m.Body, inner) {
					t.Errorf("%x: error %d", b, e)
				}
				continue
			}
			isNotRead(t, api.ErrForm, b, "too long a count")
			if len(b) >= 256 {
				isNotRead(t, api.ErrForm, in, "one with too long a count in it")
			}
		}
	}
	for _, digits := range []string{
		"04 80", "04 80 00 00", "30 80 02 01 05 00 00", "30 80", "04 81", "04 82 01", "04 84 FF FF FF FF", "04 88 FF FF FF FF FF FF FF FF",
		"04 88 80 00 00 00 00 00 00 00", "04 89 01 00 00 00 00 00 00 00 00", "04 89 01 00 00 00 00 00 00 00 01 61", "04 FF", "30 FF 00",
	} {
		isNotRead(t, api.ErrForm, sample.Bytes(t, digits), "a count")
		isNotRead(t, api.ErrForm, append(sample.Bytes(t, digits), make([]byte, 200)...), "a count and noughts")
		isNotRead(t, api.ErrForm, append(sample.Bytes(t, digits), bytes.Repeat([]byte{0xFF}, 200)...), "a count and more")
	}
}

// Of all strings of so few bytes there are just these nodes: they are counted by the table.
func TestAllShortBytes(t *testing.T) {
	isNotRead(t, api.ErrForm, nil, "no bytes")
	isNotRead(t, api.ErrForm, []byte{}, "no bytes")
	found := [4]int{}
	for x := range 1 << 24 {
		b := []byte{byte(x >> 16), byte(x >> 8), byte(x)}
		found[3] += readable(t, b)
		if x < 1<<16 {
			found[2] += readable(t, b[1:])
		}
		if x < 1<<8 {
			found[1] += readable(t, b[2:])
		}
	}
	// Of two: Bytes, Text, and the five made of others, with nothing in them. Of three: a byte behind Bool, Int, Bits,
	// Bytes, Oid, Text.
	if want := [4]int{0, 0, 7, 2 + 256 + 1 + 256 + 128 + 95}; found != want {
		t.Errorf("%d nodes, not %d", found, want)
	}
}

func TestAllBodiesOfTwoBytes(t *testing.T) {
	want := map[int]int{
		der.Int:   65536 - 128 - 128,
		der.Bits:  256 + 128 + 64 + 32 + 16 + 8 + 4 + 2,
		der.Bytes: 65536,
		der.Oid:   255 * 128,
		der.Text:  95 * 95,
		der.Seq:   7, der.Part0: 7, 0xA1: 7, 0xA2: 7, der.Part3: 7,
	}
	for tag := range 256 {
		found := 0
		for x := range 1 << 16 {
			found += readable(t, []byte{byte(tag), 2, byte(x >> 8), byte(x)})
		}
		if found != want[tag] {
			t.Errorf("tag %x: %d nodes, not %d", tag, found, want[tag])
		}
	}
}

// readable is 1, if there is a node with these bytes, which is then the only one: it has no others.
func readable(t *testing.T, b []byte) int {
	t.Helper()
	n, e := der.Read(b)
	if e == api.ErrForm {
		return 0
	}
	if back, again := der.Write(n); e != api.OK || again != api.OK || !bytes.Equal(back, b) {
		t.Errorf("%x is read, and written as %x: errors %d, %d", b, back, e, again)
	}
	return 1
}

func TestBeginningsAndMore(t *testing.T) {
	for _, n := range nodes(t) {
		b := comesBack(t, n)
		for i := range b {
			isNotRead(t, api.ErrForm, b[:i], "a beginning")
		}
		for _, more := range []byte{0, 1, 2, 0x30, 0x80, 0xFF} {
			isNotRead(t, api.ErrForm, append(bytes.Clone(b), more), "a byte more")
		}
		isNotRead(t, api.ErrForm, append(bytes.Clone(b), b...), "two of them")
	}
}

// With a byte changed it is another node, or none.
func TestEveryByteChanged(t *testing.T) {
	read, not := 0, 0
	for _, n := range nodes(t) {
		b := comesBack(t, n)
		for i := range b {
			for change := 1; change < 256; change++ {
				// Far within a body each byte is like the one ahead.
				if i > 50 && change > 1 {
					break
				}
				other := bytes.Clone(b)
				other[i] ^= byte(change)
				if readable(t, other) == 0 {
					not++
					continue
				}
				read++
				if m, _ := der.Read(other); same(m, n) {
					t.Errorf("%x and %x are both read as %v", b, other, n)
				}
			}
		}
	}
	if read == 0 || not == 0 {
		t.Errorf("%d read, %d not", read, not)
	}
}

// Trees of all shapes, by bytes that follow no rule.
func TestManyTrees(t *testing.T) {
	for seed := range 400 {
		draw := sample.Filled(200, seed)
		comesBack(t, tree(t, &draw, 1+seed%6))
	}
}

func tree(t *testing.T, draw *[]byte, deep int) der.Node {
	t.Helper()
	next := func() int {
		if len(*draw) == 0 {
			return 0
		}
		x := (*draw)[0]
		*draw = (*draw)[1:]
		return int(x)
	}
	if deep == 1 || next()%4 == 0 {
		of := allBodies()[next()%6]
		return der.Node{Tag: of.tag, Body: sample.Bytes(t, of.good[next()%len(of.good)])}
	}
	n := der.Node{Tag: madeOfOthers()[next()%5]}
	for range next() % 6 {
		n.Kids = append(n.Kids, tree(t, draw, deep-1))
	}
	return n
}
