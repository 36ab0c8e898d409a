package keys_test

import (
	"bytes"
	"crypto/hkdf"
	"crypto/hmac"
	"crypto/sha256"
	"fmt"
	"math"
	"slices"
	"strings"
	"testing"

	"tollgate/api"
	"tollgate/keys"
	"tollgate/sample"
)

// What the document says, by Go's library alone.

func markOf(key, b []byte) [32]byte {
	h := hmac.New(sha256.New, key)
	h.Write(b)
	return [32]byte(h.Sum(nil))
}

func extracted(t *testing.T, salt, from [32]byte) [32]byte {
	t.Helper()
	b, err := hkdf.Extract(sha256.New, from[:], salt[:])
	if err != nil {
		t.Fatal(err)
	}
	return [32]byte(b)
}

func labelled(t *testing.T, key [32]byte, label string, context []byte, n int) []byte {
	t.Helper()
	name := "tls13 " + label
	info := slices.Concat([]byte{byte(n / 256), byte(n % 256), byte(len(name))}, []byte(name), []byte{byte(len(context))}, context)
	b, err := hkdf.Expand(sha256.New, key[:], string(info), n)
	if err != nil {
		t.Fatal(err)
	}
	return b
}

func derived(t *testing.T, key [32]byte, label string) [32]byte {
	t.Helper()
	e := sha256.Sum256(nil)
	return [32]byte(labelled(t, key, label, e[:], 32))
}

func finished(t *testing.T, traffic, sum [32]byte) [32]byte {
	t.Helper()
	return markOf(labelled(t, traffic, "finished", nil, 32), sum[:])
}

func sum(seed int) [32]byte { return [32]byte(sample.Filled(32, seed)) }

// secrets are some that aren't alike.
func secrets() [][32]byte {
	all := [][32]byte{{}, {1}, {31: 1}, {31: 128}, [32]byte(bytes.Repeat([]byte{0xFF}, 32))}
	for seed := range 20 {
		all = append(all, sum(seed))
	}
	return all
}

func is(t *testing.T, what string, got, want [32]byte) {
	t.Helper()
	if got != want {
		t.Errorf("%s: %x, not %x", what, got, want)
	}
}

func TestSecrets(t *testing.T) {
	for _, a := range secrets() {
		is(t, "Early", keys.Early(a), extracted(t, [32]byte{}, a))
		is(t, "Master", keys.Master(a), extracted(t, derived(t, a, "derived"), [32]byte{}))
		for _, b := range secrets() {
			is(t, "Handshake", keys.Handshake(a, b), extracted(t, derived(t, a, "derived"), b))
			is(t, "Finish", keys.Finish(a, b), finished(t, a, b))
			is(t, "Binder", keys.Binder(a, b), finished(t, derived(t, a, "res binder"), b))
		}
	}
}

func TestSigned(t *testing.T) {
	for _, s := range secrets() {
		ahead := strings.Repeat("\x20", 64)
		is(t, "a server's", keys.Signed(true, s), sha256.Sum256([]byte(ahead+"TLS 1.3, server CertificateVerify\x00"+string(s[:]))))
		is(t, "a client's", keys.Signed(false, s), sha256.Sum256([]byte(ahead+"TLS 1.3, client CertificateVerify\x00"+string(s[:]))))
	}
}

func TestRetried(t *testing.T) {
	for _, s := range secrets() {
		if b := keys.Retried(s); !bytes.Equal(b, append([]byte{0xFE, 0, 0, 0x20}, s[:]...)) {
			t.Errorf("%x: %x", s, b)
		}
	}
}

// A nonce of more than 255 bytes is refused.
func TestAgain(t *testing.T) {
	for _, s := range secrets() {
		for _, n := range []int{0, 1, 2, 8, 31, 32, 33, 64, 254, 255, 256, 257, 264, 511, 512, 1000, 65536, 65537} {
			for _, nonce := range [][]byte{sample.Filled(n, 1), make([]byte, n)} {
				var want [32]byte
				if n <= 255 {
					want = [32]byte(labelled(t, s, "resumption", nonce, 32))
				}
				is(t, fmt.Sprint("by a nonce of ", n), keys.Again(s, nonce), want)
			}
		}
		is(t, "by no nonce", keys.Again(s, nil), [32]byte(labelled(t, s, "resumption", []byte{}, 32)))
	}
}

// isExported holds what Export answers against the document's words.
func isExported(t *testing.T, exporter [32]byte, label string, context []byte, n int) {
	t.Helper()
	b, e := keys.Export(exporter, label, context, n)
	if len(label) > 249 || n < 0 || n > 8160 {
		if e != api.ErrArg || len(b) > 0 {
			t.Errorf("a label of %d, a context of %d, %d bytes: %.40x, error %d", len(label), len(context), n, b, e)
		}
		return
	}
	s := sha256.Sum256(context)
	want := labelled(t, derived(t, exporter, label), "exporter", s[:], n)
	if e != api.OK || !bytes.Equal(b, want) {
		t.Errorf("a label of %d, a context of %d, %d bytes: %.40x, not %.40x: error %d", len(label), len(context), n, b, want, e)
	}
}

// counts are those that Label takes and those that it refuses, some of which have the last bytes of others.
func counts() []int {
	return []int{0, 1, 2, 10, 31, 32, 33, 64, 128, 255, 256, 257, 4096, 8159, 8160, 8161, 8192, 65535, 65536, 65536 + 32, 1<<32 + 32, 1 << 62, math.MaxInt,
		-1, -2, -32, -65536 + 32, math.MinInt, math.MinInt + 32}
}

func labels() []string {
	all := []string{"", "x", "exporter", "client EAP encryption", "EXPORTER_EAP_TLS_Key_Material", "\x00", "\xFF\x00 "}
	for _, n := range []int{243, 248, 249, 250, 251, 255, 256, 257, 300, 506, 65536, 65536 + 5} {
		all = append(all, strings.Repeat("l", n), string(sample.Filled(n, 1)))
	}
	return all
}

func contexts() [][]byte {
	var all [][]byte
	for _, n := range []int{0, 1, 32, 55, 56, 64, 255, 256, 1000, 70000} {
		all = append(all, sample.Filled(n, 2))
	}
	return append(all, nil, []byte{0}, make([]byte, 32))
}

func TestExport(t *testing.T) {
	for _, label := range labels() {
		for _, n := range counts() {
			isExported(t, sum(1), label, []byte("c"), n)
			isExported(t, sum(1), label, nil, n)
		}
		for _, context := range contexts() {
			isExported(t, sum(2), label, context, 32)
		}
		for _, s := range secrets() {
			isExported(t, s, label, nil, 20)
		}
	}
	for n := range 300 {
		isExported(t, sum(3), strings.Repeat("x", n), sample.Filled(n, 1), 7)
		isExported(t, sum(3), "x", sample.Filled(n, 2), n)
	}
}

// An empty label and an empty context are no fault, and no context is an empty one.
func TestExportOfNothing(t *testing.T) {
	some, e := keys.Export(sum(1), "", nil, 40)
	again, f := keys.Export(sum(1), "", []byte{}, 40)
	if e != api.OK || f != api.OK || len(some) != 40 || !bytes.Equal(some, again) {
		t.Errorf("%x and %x: errors %d, %d", some, again, e, f)
	}
	if b, e := keys.Export(sum(1), "x", []byte("c"), 0); e != api.OK || len(b) > 0 {
		t.Errorf("%x: error %d", b, e)
	}
}

func TestHandedInStays(t *testing.T) {
	for _, n := range []int{0, 1, 8, 32, 255, 256, 1000} {
		want := sample.Filled(n, 3)
		handed := sample.Roomy(want)
		secret := keys.Again(sum(1), handed)
		sample.Unchanged(t, "the nonce", handed, want)
		for _, count := range []int{0, 32, 100, 8160, 8161, -1} {
			for _, label := range []string{"", "x", strings.Repeat("x", 249), strings.Repeat("x", 250)} {
				b, e := keys.Export(sum(1), label, handed, count)
				sample.Unchanged(t, "the context", handed, want)
				again, f := keys.Export(sum(1), label, handed, count)
				clear(b[:cap(b)])
				sample.Unchanged(t, "the context", handed, want)
				third, _ := keys.Export(sum(1), label, want, count)
				if e != f || len(b) != len(again) || !bytes.Equal(again, third) {
					t.Errorf("a context of %d, %d bytes: two answers share memory: errors %d, %d", n, count, e, f)
				}
			}
		}
		clear(handed[:cap(handed)])
		is(t, "the nonce is kept", keys.Again(sum(1), want), secret)
	}
}

func TestRetriedAnswersNewMemory(t *testing.T) {
	b, again := keys.Retried(sum(1)), keys.Retried(sum(1))
	clear(b[:cap(b)])
	if third := keys.Retried(sum(1)); !bytes.Equal(again, third) || again[0] != 0xFE {
		t.Error("two answers share memory")
	}
}
