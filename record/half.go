package record

import (
	"tollgate/api"
	"tollgate/gcm"
	"tollgate/mac"
)

const (
	keySize   = 16
	nonceSize = 12
)

// Half is one way, by a secret.
type Half struct {
	box  *gcm.Box
	iv   [nonceSize]byte
	used int // the next record's number: each number is used once, whichever way
}

// New: by a secret.
func New(secret [32]byte) *Half {
	key, _ := mac.Label(secret, "key", nil, keySize)
	iv, _ := mac.Label(secret, "iv", nil, nonceSize)
	box, _ := gcm.New(key)
	return &Half{box: box, iv: [nonceSize]byte(iv)}
}

// Seal, Open: a record, with noughts behind what it holds; Used: how many were.
func (h *Half) Seal(kind int, b []byte, pad int) ([]byte, api.Errno) {
	if h.empty() || !isKind(kind) || pad < 0 {
		return nil, api.ErrArg
	}
	// The bytes are counted ahead of the noughts, for a sum of both might be beyond an int.
	if len(b) > api.MaxRecord || pad > api.MaxRecord-len(b) {
		return nil, api.ErrBig
	}
	if h.used >= MostUses {
		return nil, api.ErrSeq
	}
	inner := make([]byte, len(b)+1+pad)
	copy(inner, b)
	inner[len(b)] = byte(kind)
	beside := head(Data, len(inner)+gcm.Extra)
	sealed := h.box.Seal(h.nonce(), inner, beside)
	h.used++
	return append(beside, sealed...), api.OK
}

func (h *Half) Open(rec []byte) (int, []byte, api.Errno) {
	if h.empty() {
		return 0, nil, api.ErrArg
	}
	outer, sealed, e := parts(rec)
	if e != api.OK {
		return 0, nil, e
	}
	if outer != Data {
		return 0, nil, api.ErrForm
	}
	if h.used >= MostUses {
		return 0, nil, api.ErrSeq
	}
	inner, e := h.box.Open(h.nonce(), sealed, rec[:headSize])
	if e != api.OK {
		return 0, nil, e
	}
	// It was the other end's next record, whatever it holds.
	h.used++
	return within(inner)
}

func (h *Half) Used() int {
	if h.empty() {
		return 0
	}
	return h.used
}

// empty: a half that New didn't make counts as none, since it has no key.
func (h *Half) empty() bool { return h == nil || h.box == nil }

// nonce is that of the next record.
func (h *Half) nonce() [nonceSize]byte {
	nonce := h.iv
	for i := range 8 {
		nonce[nonceSize-1-i] ^= byte(h.used >> (8 * i))
	}
	return nonce
}

// within is what was sealed: the kind is the last byte that isn't nought. The bytes are a piece of inner.
func within(inner []byte) (int, []byte, api.Errno) {
	at := len(inner) - 1
	for at >= 0 && inner[at] == 0 {
		at--
	}
	if at < 0 || !isKind(int(inner[at])) {
		return 0, nil, api.ErrForm
	}
	if at > api.MaxRecord {
		return 0, nil, api.ErrBig
	}
	return int(inner[at]), inner[:at], api.OK
}
