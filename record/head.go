package record

import "tollgate/api"

const (
	headSize = 5
	version  = 3 // twice
	// mostBody is more than MaxRecord, for what sealing puts beside the bytes.
	mostBody = 16640
)

func isKind(kind int) bool { return kind == Alert || kind == Handshake || kind == Data }

// head is what stands ahead of a record's body of n bytes.
func head(kind, n int) []byte { return []byte{byte(kind), version, version, byte(n >> 8), byte(n)} }

// sizeOf is how many bytes the record has that b begins with.
func sizeOf(b []byte) (int, api.Errno) {
	if !beginsOne(b) {
		return 0, api.ErrForm
	}
	if len(b) < headSize {
		return 0, api.ErrTail
	}
	count := int(b[3])<<8 | int(b[4])
	if count > mostBody {
		return 0, api.ErrBig
	}
	if len(b)-headSize < count {
		return 0, api.ErrTail
	}
	return headSize + count, api.OK
}

// beginsOne: are the bytes ahead of the count those of a record, as far as there are some?
func beginsOne(b []byte) bool {
	for i, c := range b[:min(len(b), 3)] {
		if i == 0 && !isKind(int(c)) || i > 0 && c != version {
			return false
		}
	}
	return true
}

// parts are the kind and the body of one record, as it stands; the body is a piece of rec.
func parts(rec []byte) (int, []byte, api.Errno) {
	size, e := sizeOf(rec)
	if e != api.OK {
		return 0, nil, e
	}
	if size < len(rec) {
		return 0, nil, api.ErrForm
	}
	return int(rec[0]), rec[headSize:], api.OK
}
