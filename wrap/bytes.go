package wrap

import "tollgate/old"

const (
	mostKey   = 200
	leastSalt = 0x80
)

// Where a value's parts begin, behind the number of the vendor.
const (
	kindAt   = 4
	countAt  = kindAt + 1
	saltAt   = countAt + 1
	hiddenAt = saltAt + 2
	mostSize = hiddenAt + (1+mostKey+15)/16*16
)

// whole is the value for a key that may be wrapped.
func whole(kind byte, key []byte, salt [2]byte, asked [16]byte, secret []byte) []byte {
	hidden := old.Hide(secret, begin(asked, salt), append([]byte{byte(len(key))}, key...))
	count := hiddenAt - kindAt + len(hidden)
	// Microsoft's number as a vendor is 0137, in base 16.
	return append([]byte{0x00, 0x00, 0x01, 0x37, kind, byte(count), salt[0], salt[1]}, hidden...)
}

// begin is what the first bytes are hidden by, beside the secret.
func begin(asked [16]byte, salt [2]byte) []byte { return append(asked[:], salt[:]...) }

// said is what a value is the Wrap of, if it is one of anything.
func said(value []byte, asked [16]byte, secret []byte) (kind int, key []byte, salt [2]byte) {
	if len(value) < hiddenAt || len(value) > mostSize {
		return 0, nil, salt
	}
	salt = [2]byte(value[saltAt:hiddenAt])
	shown := old.Show(secret, begin(asked, salt), value[hiddenAt:])
	if len(shown) == 0 || int(shown[0]) >= len(shown) {
		return 0, nil, salt
	}
	return int(value[kindAt]), shown[1 : 1+int(shown[0])], salt
}
