package radius_test

import (
	"bytes"
	"testing"

	"tollgate/api"
	"tollgate/radius"
	"tollgate/sample"
)

func spoil(b []byte) {
	b = b[:cap(b)]
	for i := range b {
		b[i] ^= 0xA5
	}
}

func spoilAttrs(l []radius.Attr) {
	for _, a := range l {
		spoil(a.Value)
	}
	clear(l[:cap(l)])
}

// roomy is a copy of a list, with spare room behind it and behind each value.
func roomy(l []radius.Attr) []radius.Attr {
	all := []radius.Attr{}
	for _, a := range l {
		all = append(all, radius.Attr{Kind: a.Kind, Value: sample.Roomy(a.Value)})
	}
	for range 4 {
		all = append(all, radius.Attr{Kind: 99, Value: []byte("spare")})
	}
	return all[:len(l)]
}

func isUnchanged(t *testing.T, got, want []radius.Attr) {
	t.Helper()
	for i, a := range want {
		if got[i].Kind != a.Kind {
			t.Errorf("attribute %d has another Kind", i)
		}
		sample.Unchanged(t, "a value", got[i].Value, a.Value)
	}
	for _, a := range got[len(got) : len(got)+4] {
		if a.Kind != 99 || string(a.Value) != "spare" {
			t.Error("a list's spare room was changed")
		}
	}
}

// Write, Seal and Reply change nothing, keep nothing, and answer new memory.
func TestWritersMemory(t *testing.T) {
	secret := []byte("secret")
	for _, p := range packets() {
		for i, write := range []func(p radius.Packet, secret []byte) ([]byte, api.Errno){
			func(p radius.Packet, _ []byte) ([]byte, api.Errno) { return radius.Write(p) },
			radius.Seal,
			func(p radius.Packet, secret []byte) ([]byte, api.Errno) { return radius.Reply(p, asked, secret) },
		} {
			want, wantE := write(p, secret)
			handed, key := p, sample.Roomy(secret)
			handed.Attrs = roomy(p.Attrs)
			b, e := write(handed, key)
			again, _ := write(handed, key)
			spoil(again)
			isUnchanged(t, handed.Attrs, p.Attrs)
			sample.Unchanged(t, "the secret", key, secret)
			spoilAttrs(handed.Attrs)
			spoil(key)
			if e != wantE || !bytes.Equal(b, want) {
				t.Errorf("%.100s, %d: an answer isn't new memory", named(p), i)
			}
		}
	}
}

// Read, Open and Opened change nothing, keep nothing, and no two values that they answer share memory.
func TestReadersMemory(t *testing.T) {
	secret := []byte("secret")
	for _, p := range packets() {
		for i, read := range []func(b, secret []byte) (radius.Packet, api.Errno){
			func(b, _ []byte) (radius.Packet, api.Errno) { return radius.Read(b) },
			radius.Open,
			func(b, secret []byte) (radius.Packet, api.Errno) { return radius.Opened(b, asked, secret) },
		} {
			b := bytesOf(p)
			if i == 1 {
				b = sealedOf(p, secret)
			} else if i == 2 {
				b = repliedOf(p, asked, secret)
			}
			want, wantE := read(b, secret)
			handed, key := sample.Roomy(b), sample.Roomy(secret)
			q, e := read(handed, key)
			again, _ := read(handed, key)
			sample.Unchanged(t, "the bytes", handed, b)
			sample.Unchanged(t, "the secret", key, secret)
			spoil(handed)
			spoil(key)
			spoilAttrs(again.Attrs)
			if e != wantE || !same(q, want) {
				t.Errorf("%.100s, %d: an answer isn't new memory", named(p), i)
			}
			areApart(t, q.Attrs, want.Attrs)
		}
	}
}

// areApart: a value that is spoilt, with its spare room, leaves the others as they are.
func areApart(t *testing.T, got, want []radius.Attr) {
	t.Helper()
	for i := range got {
		spoil(got[i].Value)
		if !sameAttrs(got[i+1:], want[i+1:]) {
			t.Errorf("values %d and others share memory", i)
		}
	}
}

// What can't be read or opened is left as it was, too.
func TestReadersOfWrongBytes(t *testing.T) {
	secret := []byte("secret")
	for _, p := range packets() {
		sealed := sealedOf(p, secret)
		sealed[len(sealed)-1] ^= 1
		for _, b := range [][]byte{sealed, answered(sealed, asked, secret), sealed[:len(sealed)-1], bytesOf(p)} {
			handed := sample.Roomy(b)
			radius.Read(handed)
			radius.Open(handed, secret)
			radius.Opened(handed, asked, secret)
			sample.Unchanged(t, "the bytes", handed, b)
		}
	}
}

func TestListsMemory(t *testing.T) {
	for _, n := range []int{1, 253, 254, 600} {
		b := sample.Filled(n, 9)
		handed := sample.Roomy(b)
		list, other := radius.Split(handed), radius.Split(handed)
		sample.Unchanged(t, "the bytes", handed, b)
		spoilAttrs(other)
		spoil(handed)
		if !sameAttrs(list, radius.Split(b)) {
			t.Errorf("%d bytes: Split's answers aren't new memory", n)
		}
		roomed := roomy(list)
		joined, again := radius.Join(roomed), radius.Join(roomed)
		found, _ := radius.Find(roomed, eapKind)
		more, _ := radius.Find(roomed, eapKind)
		spoil(again)
		spoil(more)
		isUnchanged(t, roomed, list)
		spoilAttrs(roomed)
		if !bytes.Equal(joined, b) || !bytes.Equal(found, list[0].Value) {
			t.Errorf("%d bytes: Join's and Find's answers aren't new memory", n)
		}
		areApart(t, list, radius.Split(b))
	}
}
