package sample_test

import (
	"bytes"
	"testing"

	"tollgate/sample"
)

// faults counts what is told to it.
type faults int

func (f *faults) Helper() {}

func (f *faults) Errorf(string, ...any) { *f++ }

func TestFilled(t *testing.T) {
	if len(sample.Filled(0, 1)) != 0 || !bytes.Equal(sample.Filled(50, 1), sample.Filled(50, 1)) {
		t.Error("not determined")
	}
	if bytes.Equal(sample.Filled(50, 1), sample.Filled(50, 2)) {
		t.Error("two seeds, the same bytes")
	}
}

func TestBytes(t *testing.T) {
	var f faults
	if !bytes.Equal(sample.Bytes(&f, "00ff 7A a0"), []byte{0, 0xFF, 0x7A, 0xA0}) || len(sample.Bytes(&f, "")) != 0 || f != 0 {
		t.Error("digits of base 16")
	}
	for i, wrong := range []string{"0", "000", "0g", "+1", "00 -1"} {
		if sample.Bytes(&f, wrong) != nil || int(f) != i+1 {
			t.Errorf("%q: %d faults", wrong, f)
		}
	}
}

func TestUnchangedTellsEachChange(t *testing.T) {
	for n := range 20 {
		want := sample.Filled(n, 3)
		got := sample.Roomy(want)
		all := got[:cap(got)]
		for i := range all {
			var f faults
			sample.Unchanged(&f, "nothing", got, want)
			if f != 0 {
				t.Fatal("a fault where nothing was changed")
			}
			all[i] ^= 1
			sample.Unchanged(&f, "a byte", got, want)
			if f != 1 {
				t.Errorf("%d bytes, byte %d: %d faults", n, i, f)
			}
			all[i] ^= 1
		}
	}
}
