package record_test

import (
	"bytes"
	"crypto/aes"
	"crypto/cipher"
	"crypto/hkdf"
	"crypto/sha256"
	"encoding/binary"
	"slices"
	"testing"

	"tollgate/api"
	"tollgate/record"
	"tollgate/sample"
)

// The document's own numbers: how many bytes a record's content has at most, and what a record's count is at most.
const (
	most     = 16384
	mostBody = 16640
	extra    = 16
)

func kinds() []int { return []int{21, 22, 23} }

// noKinds stand beside kinds, or have the last byte of one.
func noKinds() []int {
	return []int{-1 << 63, -235, -1, 0, 1, 20, 24, 25, 127, 128, 255, 256, 256 + 21, 256 + 22, 512 + 23, 1<<32 + 22, 1<<63 - 1}
}

func secretOf(seed int) [32]byte { return [32]byte(sample.Filled(32, seed)) }

// put is a record's bytes, whether there is such a record or not.
func put(kind, count int, body []byte) []byte {
	return append([]byte{byte(kind), 3, 3, byte(count >> 8), byte(count)}, body...)
}

// whole is a record of a body, whole.
func whole(kind int, body []byte) []byte { return put(kind, len(body), body) }

// inner is what is sealed.
func inner(b []byte, kind, pad int) []byte {
	return slices.Concat(b, []byte{byte(kind)}, make([]byte, pad))
}

// label is RFC 8446's HKDF-Expand-Label with no context, by Go's library.
func label(t *testing.T, secret [32]byte, name string, n int) []byte {
	t.Helper()
	info := append([]byte{0, byte(n), byte(6 + len(name))}, "tls13 "+name+"\x00"...)
	b, err := hkdf.Expand(sha256.New, secret[:], string(info), n)
	if err != nil {
		t.Fatal(err)
	}
	return b
}

func boxOf(t *testing.T, secret [32]byte) cipher.AEAD {
	t.Helper()
	block, err := aes.NewCipher(label(t, secret, "key", 16))
	if err != nil {
		t.Fatal(err)
	}
	box, err := cipher.NewGCM(block)
	if err != nil {
		t.Fatal(err)
	}
	return box
}

// sealedBy is the n-th record that holds what is inner, by Go's library.
func sealedBy(t *testing.T, secret [32]byte, n int, inner []byte) []byte {
	t.Helper()
	nonce := label(t, secret, "iv", 12)
	binary.BigEndian.PutUint64(nonce[4:], binary.BigEndian.Uint64(nonce[4:])^uint64(n))
	head := put(23, len(inner)+extra, nil)
	return append(head, boxOf(t, secret).Seal(nil, nonce, inner, head)...)
}

// cutOf is what Cut must answer, by the document's words: how many bytes the first record has, or the error.
func cutOf(b []byte) (int, api.Errno) {
	if len(b) > 0 && !slices.Contains(kinds(), int(b[0])) || len(b) > 1 && b[1] != 3 || len(b) > 2 && b[2] != 3 {
		return 0, api.ErrForm
	}
	if len(b) < 5 {
		return 0, api.ErrTail
	}
	count := 256*int(b[3]) + int(b[4])
	if count > mostBody {
		return 0, api.ErrBig
	}
	if len(b) < 5+count {
		return 0, api.ErrTail
	}
	return 5 + count, api.OK
}

// isCut holds what Cut and Body answer of b against the document's words.
func isCut(t *testing.T, b []byte) {
	t.Helper()
	size, want := cutOf(b)
	rec, rest, e := record.Cut(b)
	if e != want {
		t.Errorf("%.20x (%d bytes) is cut: error %d, not %d", b, len(b), e, want)
	}
	if e == api.OK && (!bytes.Equal(rec, b[:size]) || !bytes.Equal(rest, b[size:])) {
		t.Errorf("%.20x (%d bytes) is cut behind %d, not %d", b, len(b), len(rec), size)
	}
	if e != api.OK && (len(rec) > 0 || len(rest) > 0) {
		t.Errorf("%.20x: %d and %d bytes beside an error", b, len(rec), len(rest))
	}
	if want == api.OK && size < len(b) {
		want = api.ErrForm
	}
	if want == api.OK && size > 5+most {
		want = api.ErrBig
	}
	isBody(t, b, want)
}

func isBody(t *testing.T, b []byte, want api.Errno) {
	t.Helper()
	kind, body, e := record.Body(b)
	if e != want {
		t.Errorf("%.20x (%d bytes): the body's error is %d, not %d", b, len(b), e, want)
	}
	if e == api.OK && (kind != int(b[0]) || !bytes.Equal(body, b[5:])) {
		t.Errorf("%.20x: kind %d, body %.20x", b, kind, body)
	}
	if e != api.OK && (kind != 0 || len(body) > 0) {
		t.Errorf("%.20x: kind %d, %d bytes beside an error", b, kind, len(body))
	}
}

// isSealed: the next record of h is the n-th one.
func isSealed(t *testing.T, h *record.Half, secret [32]byte, n, kind int, b []byte, pad int) {
	t.Helper()
	got, e := h.Seal(kind, b, pad)
	if want := sealedBy(t, secret, n, inner(b, kind, pad)); e != api.OK || !bytes.Equal(got, want) {
		t.Errorf("record %d, kind %d, %d bytes, %d noughts: %.40x, not %.40x: error %d", n, kind, len(b), pad, got, want, e)
	}
	isUsed(t, h, n+1)
}

func isOpened(t *testing.T, h *record.Half, rec []byte, kind int, b []byte) {
	t.Helper()
	used := h.Used()
	k, got, e := h.Open(rec)
	if e != api.OK || k != kind || !bytes.Equal(got, b) {
		t.Errorf("%.20x (%d bytes), the %d. one: kind %d, not %d, %d bytes, not %d: error %d", rec, len(rec), used, k, kind, len(got), len(b), e)
	}
	isUsed(t, h, used+1)
}

// isRefused: nothing is answered but the error, and nothing is used.
func isRefused(t *testing.T, h *record.Half, rec []byte, want api.Errno, what string) {
	t.Helper()
	used := h.Used()
	isWrong(t, h, rec, want, what)
	isUsed(t, h, used)
}

// isWrongWithin: likewise, but the record was the next one, and is used.
func isWrongWithin(t *testing.T, h *record.Half, rec []byte, want api.Errno, what string) {
	t.Helper()
	used := h.Used()
	isWrong(t, h, rec, want, what)
	isUsed(t, h, used+1)
}

func isWrong(t *testing.T, h *record.Half, rec []byte, want api.Errno, what string) {
	t.Helper()
	if k, b, e := h.Open(rec); e != want || k != 0 || len(b) > 0 {
		t.Errorf("%s: %.20x (%d bytes): kind %d, %d bytes, error %d, not %d", what, rec, len(rec), k, len(b), e, want)
	}
}

func isNotSealed(t *testing.T, h *record.Half, kind int, b []byte, pad int, want api.Errno) {
	t.Helper()
	used := h.Used()
	if rec, e := h.Seal(kind, b, pad); e != want || len(rec) > 0 {
		t.Errorf("kind %d, %d bytes, %d noughts: %d bytes, error %d, not %d", kind, len(b), pad, len(rec), e, want)
	}
	isUsed(t, h, used)
}

func isUsed(t *testing.T, h *record.Half, want int) {
	t.Helper()
	if used := h.Used(); used != want {
		t.Errorf("%d are used, not %d", used, want)
	}
}

// opener has opened n records.
func opener(t *testing.T, secret [32]byte, n int) *record.Half {
	t.Helper()
	h := record.New(secret)
	for i := range n {
		if _, _, e := h.Open(sealedBy(t, secret, i, inner(nil, 22, 0))); e != api.OK {
			t.Fatalf("the %d. record: error %d", i, e)
		}
	}
	return h
}

// sealer has sealed n records.
func sealer(t *testing.T, secret [32]byte, n int) *record.Half {
	t.Helper()
	h := record.New(secret)
	for i := range n {
		if _, e := h.Seal(22, nil, 0); e != api.OK {
			t.Fatalf("the %d. record: error %d", i, e)
		}
	}
	return h
}

// sealedBeside is what is within the first record that holds "abc" of kind 22, by Go's library, sealed beside other bytes than its head.
func sealedBeside(t *testing.T, secret [32]byte, beside []byte) []byte {
	t.Helper()
	return boxOf(t, secret).Seal(nil, label(t, secret, "iv", 12), []byte("abc\x16"), beside)
}
