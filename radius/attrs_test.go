package radius_test

import (
	"bytes"
	"slices"
	"testing"

	"tollgate/api"
	"tollgate/radius"
	"tollgate/sample"
)

func TestSplitAndJoin(t *testing.T) {
	for _, n := range []int{0, 1, 2, 100, 252, 253, 254, 255, 300, 505, 506, 507, 758, 759, 760, 4000, 4096, 1 << 16} {
		b := sample.Filled(n, 1)
		var want []radius.Attr
		for rest := b; len(rest) > 0; rest = rest[min(253, len(rest)):] {
			want = append(want, radius.Attr{Kind: eapKind, Value: rest[:min(253, len(rest))]})
		}
		got := radius.Split(b)
		if !sameAttrs(got, want) || len(got) != (n+252)/253 {
			t.Errorf("%d bytes: %d attributes", n, len(got))
		}
		if again := radius.Join(got); !bytes.Equal(again, b) {
			t.Errorf("%d bytes are joined as %d", n, len(again))
		}
	}
	if len(radius.Split(nil)) > 0 || len(radius.Join(nil)) > 0 || len(radius.Join([]radius.Attr{})) > 0 {
		t.Error("something of nothing")
	}
}

// What isn't Eap counts for nothing, wherever it stands; what is counts, whatever its value is.
func TestJoinOfOthers(t *testing.T) {
	value := func(s string) []byte { return []byte(s) }
	list := []radius.Attr{{1, value("x")}, {eapKind, value("a")}, {eapKind + 256, value("y")}, {eapKind, nil}, {eapKind, value("bc")}, {markKind, value("z")}, {-eapKind, value("w")}, {eapKind, bytes.Repeat([]byte("d"), 300)}, {0, value("v")}}
	if b := radius.Join(list); string(b) != "abc"+string(bytes.Repeat([]byte("d"), 300)) {
		t.Errorf("%q", b)
	}
	if b := radius.Join([]radius.Attr{{1, value("x")}, {80, value("y")}, {78, value("z")}}); len(b) > 0 {
		t.Errorf("%q", b)
	}
}

func TestFind(t *testing.T) {
	list := []radius.Attr{{1, []byte("first")}, {24, nil}, {1, []byte("second")}, {24, []byte("third")}, {0, []byte("none")}, {-7, []byte("less")}, {300, []byte("more")}}
	for kind, want := range map[int]string{1: "first", 24: "", 0: "none", -7: "less", 300: "more"} {
		if v, ok := radius.Find(list, kind); !ok || string(v) != want {
			t.Errorf("%d: %q, %v", kind, v, ok)
		}
	}
	for _, kind := range []int{2, 23, 25, 44, 257, -1, 7, 1 << 32, 1<<32 + 1, -1 << 63} {
		if v, ok := radius.Find(list, kind); ok || v != nil {
			t.Errorf("%d: %q, %v", kind, v, ok)
		}
	}
	for _, list := range [][]radius.Attr{nil, {}} {
		if v, ok := radius.Find(list, 1); ok || v != nil {
			t.Errorf("%q, %v", v, ok)
		}
	}
}

// A packet of EAP as big as may be goes through in a packet with others beside.
func TestSplitInAPacket(t *testing.T) {
	b := sample.Filled(4000, 3)
	sealed, e := radius.Seal(radius.Packet{Code: 1, Attrs: slices.Concat([]radius.Attr{attr(1, 5)}, radius.Split(b))}, []byte("s"))
	if e != api.OK {
		t.Fatal("error ", e)
	}
	if p, e := radius.Open(sealed, []byte("s")); e != api.OK || !bytes.Equal(radius.Join(p.Attrs), b) {
		t.Errorf("%.100s, error %d", named(p), e)
	}
}
