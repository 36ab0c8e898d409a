package hello_test

import (
	"bytes"
	"fmt"
	"testing"

	"tollgate/hello"
	"tollgate/sample"
)

// lists are all of a message's, each with a name.
func lists(m hello.Msg) map[string][]byte {
	all := map[string][]byte{"session": m.Session, "share": m.Share, "ticket": m.Ticket, "nonce": m.Nonce, "sig": m.Sig}
	for i, c := range m.Certs {
		all[fmt.Sprint("certificate ", i)] = c
	}
	return all
}

// roomy is a copy of m, whose lists have spare room with marks in it.
func roomy(m hello.Msg) hello.Msg {
	m.Session, m.Share, m.Ticket = sample.Roomy(m.Session), sample.Roomy(m.Share), sample.Roomy(m.Ticket)
	m.Nonce, m.Sig = sample.Roomy(m.Nonce), sample.Roomy(m.Sig)
	certs := make([][]byte, len(m.Certs)+3)
	for i := range certs {
		certs[i] = sample.Roomy([]byte("spare"))
	}
	for i, c := range m.Certs {
		certs[i] = sample.Roomy(c)
	}
	m.Certs = certs[:len(m.Certs)]
	return m
}

// isUnchanged holds what roomy made of want against it.
func isUnchanged(t *testing.T, got, want hello.Msg) {
	t.Helper()
	if !same(got, want) {
		t.Errorf("%v was %v", got, want)
	}
	wanted := lists(want)
	for name, b := range lists(got) {
		sample.Unchanged(t, name, b, wanted[name])
	}
	for _, b := range got.Certs[len(got.Certs):cap(got.Certs)] {
		sample.Unchanged(t, "the certificates' spare room", b, []byte("spare"))
	}
}

// spoil makes something else of all that a message has.
func spoil(m hello.Msg) {
	for _, b := range lists(m) {
		spoilBytes(b)
	}
	clear(m.Certs[:cap(m.Certs)])
}

func spoilBytes(b []byte) {
	b = b[:cap(b)]
	for i := range b {
		b[i] ^= 0xA5
	}
}

// wrongMessages are not in form, each of them by another part.
func wrongMessages() []hello.Msg {
	var all []hello.Msg
	for _, m := range messages() {
		for _, fill := range fillings() {
			filled := copied(m)
			fill(&filled)
			if !isInForm(filled) {
				all = append(all, filled)
			}
		}
	}
	return append(all, hello.Msg{Kind: 11, Certs: make([][]byte, 6)}, hello.Msg{Kind: 15, Sig: make([]byte, 101)}, hello.Msg{Kind: 1, Session: make([]byte, 33)})
}

func TestWriteKeepsAndChangesNothing(t *testing.T) {
	for _, m := range append(append(messages(), biggest()...), wrongMessages()...) {
		handed := roomy(m)
		b, e := hello.Write(handed)
		isUnchanged(t, handed, m)
		want, wantE := hello.Write(m)
		spoil(handed)
		if e != wantE || !bytes.Equal(b, want) {
			t.Errorf("%v: %.80x, then %.80x: errors %d, %d", m, b, want, e, wantE)
		}
	}
}

func TestWriteAnswersNewMemory(t *testing.T) {
	for _, m := range append(messages(), biggest()...) {
		handed := roomy(m)
		b, _ := hello.Write(handed)
		again, _ := hello.Write(handed)
		spoilBytes(b)
		isUnchanged(t, handed, m)
		if third, _ := hello.Write(m); !bytes.Equal(again, bytesOf(m)) || !bytes.Equal(third, again) {
			t.Errorf("%v: two answers share memory", m)
		}
	}
}

func TestReadKeepsAndChangesNothing(t *testing.T) {
	for _, m := range append(messages(), biggest()...) {
		for _, behind := range []int{0, 1, 50} {
			b := append(bytesOf(m), sample.Filled(behind, 1)...)
			handed := sample.Roomy(b)
			got, _, _ := hello.Read(handed)
			sample.Unchanged(t, "the bytes", handed, b)
			spoilBytes(handed)
			if !same(got, m) {
				t.Errorf("%v is kept: %v", m, got)
			}
		}
	}
}

func TestReadOfWrongBytesChangesNothing(t *testing.T) {
	for _, m := range messages() {
		b := bytesOf(m)
		for i := range b {
			for _, wrong := range [][]byte{b[:i], append(bytes.Clone(b[:i]), b[i+1:]...), append(bytes.Clone(b[:i]), append([]byte{b[i] ^ 1}, b[i+1:]...)...)} {
				handed := sample.Roomy(wrong)
				hello.Read(handed)
				hello.Short(handed)
				sample.Unchanged(t, "the bytes", handed, wrong)
			}
		}
	}
}

func TestReadAnswersNewMemory(t *testing.T) {
	for _, m := range append(messages(), biggest()...) {
		b := bytesOf(m)
		handed := sample.Roomy(b)
		got, _, _ := hello.Read(handed)
		again, _, _ := hello.Read(handed)
		spoil(got)
		sample.Unchanged(t, "the bytes", handed, b)
		if third, _, _ := hello.Read(handed); !same(again, m) || !same(third, m) {
			t.Errorf("%v: two answers share memory", m)
		}
	}
}

// No two lists of one answer share memory, neither their bytes nor their room.
func TestReadAnswersListsApart(t *testing.T) {
	for _, m := range append(messages(), biggest()...) {
		for name := range lists(m) {
			got, _, e := hello.Read(bytesOf(m))
			if e != 0 {
				t.Fatalf("%v: error %d", m, e)
			}
			spoilBytes(lists(got)[name])
			wanted := lists(m)
			for other, b := range lists(got) {
				if other != name && !bytes.Equal(b, wanted[other]) {
					t.Errorf("%v: %s and %s share memory", m, name, other)
				}
			}
		}
	}
}

func TestShortKeepsAndChangesNothing(t *testing.T) {
	for _, m := range append(messages(), biggest()...) {
		for _, behind := range []int{0, 1, 50} {
			b := append(bytesOf(m), sample.Filled(behind, 1)...)
			want := b
			if m.Kind == 1 && m.Psk && behind == 0 {
				want = b[:len(b)-35]
			}
			handed := sample.Roomy(b)
			short, again := hello.Short(handed), hello.Short(handed)
			spoilBytes(short)
			sample.Unchanged(t, "the bytes", handed, b)
			spoilBytes(handed)
			if !bytes.Equal(again, want) {
				t.Errorf("the short of %.80x is kept, or two answers share memory: %.80x", b, again)
			}
		}
	}
}
