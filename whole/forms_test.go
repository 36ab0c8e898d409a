package whole_test

import (
	"bytes"
	"testing"

	"tollgate/api"
	"tollgate/cert"
	"tollgate/curve"
	"tollgate/der"
	"tollgate/eap"
	"tollgate/hello"
	"tollgate/house"
	"tollgate/radius"
	"tollgate/record"
	"tollgate/script"
	"tollgate/wrap"
)

// rewritten is what is written of what each decoder reads in bytes; of one that reads nothing there is nothing.
func rewritten(b []byte) map[string][]byte {
	all := map[string][]byte{}
	keep := func(name string, again []byte, read, write api.Errno) {
		if read == api.OK {
			if all[name] = again; write != api.OK {
				all[name] = []byte("refused")
			}
		}
	}
	node, e := der.Read(b)
	again, f := der.Write(node)
	keep("der", again, e, f)
	sig, e := cert.ReadSig(b)
	keep("cert", cert.WriteSig(sig), e, api.OK)
	point, e := curve.Read(b)
	keep("curve", curve.Write(point), e, api.OK)
	kind, body, e := record.Body(b)
	again, f = record.Bare(kind, body)
	keep("record", again, e, f)
	message, n, e := hello.Read(b)
	again, f = hello.Write(message)
	keep("hello", append(again, b[min(n, len(b)):]...), e, f)
	packet, e := eap.Read(b)
	again, f = eap.Write(packet)
	keep("eap", again, e, f)
	other, e := radius.Read(b)
	again, f = radius.Write(other)
	keep("radius", again, e, f)
	step, e := script.Read(string(b))
	line, f := script.Write(step)
	keep("script", []byte(line), e, f)
	return all
}

// nearly are bytes, and such that differ from them a little.
func nearly(b []byte) [][]byte {
	all := [][]byte{b, append(bytes.Clone(b), 0), append(bytes.Clone(b), b...)}
	for i := 0; i < len(b); i += 1 + len(b)/150 {
		all = append(all, b[:i])
		for _, by := range []byte{1, 0x80, 0xFF, b[i]} {
			other := bytes.Clone(b)
			other[i] ^= by
			all = append(all, other)
		}
	}
	return all
}

// What is read is written again, and nothing else is read: of all that is heard in talks, and of what is nearly that.
func TestReadAndWritten(t *testing.T) {
	sig := cert.WriteSig([64]byte{31: 5, 63: 200})
	share, _ := curve.Public([32]byte{31: 3})
	for i, p := range house.Paths([2]int{3800, 4000}, [2]int{300, 200}) {
		h := hearAll(t, home.On(t, p))
		counts := map[string]int{}
		for _, b := range append(h.all(), sig, share, []byte("change to-peer 12 0f"), []byte("inject from-server 00ab"), []byte("tick")) {
			for _, one := range nearly(b) {
				for name, again := range rewritten(one) {
					if counts[name]++; !bytes.Equal(again, one) {
						t.Fatalf("path %d: %s: %x is written as %x", i, name, one, again)
					}
				}
			}
		}
		for name, least := range map[string]int{"der": 500, "cert": 5, "curve": 1, "record": 100, "hello": 100, "eap": 500, "radius": 500, "script": 5} {
			if counts[name] < least {
				t.Errorf("path %d: %d are read as %s", i, counts[name], name)
			}
		}
	}
}

// What is wrapped is unwrapped by the same secret and what was asked, and by no other.
func TestWrapped(t *testing.T) {
	asked, secret := [16]byte{7}, []byte("secret")
	for n := 1; n <= 200; n++ {
		key := bytes.Repeat([]byte{byte(n)}, n)
		v, e := wrap.Wrap(wrap.Recv, key, [2]byte{0x80}, asked, secret)
		kind, back, f := wrap.Unwrap(v, asked, secret)
		if e != api.OK || f != api.OK || kind != wrap.Recv || !bytes.Equal(back, key) {
			t.Errorf("%d bytes: kind %d, errors %d, %d", n, kind, e, f)
		}
		if _, back, _ := wrap.Unwrap(v, [16]byte{8}, secret); bytes.Equal(back, key) {
			t.Errorf("%d bytes are unwrapped by something else", n)
		}
	}
}
