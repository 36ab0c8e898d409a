package eap_test

import (
	"bytes"
	"math/rand"
	"testing"

	"tollgate/api"
	"tollgate/eap"
	"tollgate/sample"
)

// put is bytes with such a head, whether there is such a packet or not.
func put(code, id, count int, behind ...byte) []byte {
	return append([]byte{byte(code), byte(id), byte(count >> 8), byte(count)}, behind...)
}

func TestReadOfShortBytes(t *testing.T) {
	isReadAs(t, nil, api.ErrTail)
	isReadAs(t, []byte{}, api.ErrTail)
	for i := range 256 {
		isReadAs(t, []byte{byte(i)}, api.ErrTail)
		for j := range 256 {
			isReadAs(t, []byte{byte(i), byte(j)}, api.ErrTail)
			isReadAs(t, []byte{byte(i), 0, byte(j)}, api.ErrTail)
		}
	}
}

// All codes, with each small count, and up to that many bytes and some more behind the head.
func TestReadOfCodesAndCounts(t *testing.T) {
	for code := range 256 {
		for count := range 12 {
			for n := range 10 {
				isRead(t, put(code, 7, count, sample.Filled(n, code)...))
				isRead(t, put(code, 7, count, make([]byte, n)...))
				isRead(t, put(code, 7, count, append(bytes.Repeat([]byte{0}, n), 1)...))
			}
		}
	}
}

func TestReadOfAllIdsAndTypes(t *testing.T) {
	for code := range 7 {
		for id := range 256 {
			isRead(t, put(code, id, 4))
			for typ := range 256 {
				isRead(t, put(code, id, 5, byte(typ)))
				isRead(t, put(code, id, 6, byte(typ), 0))
			}
		}
	}
}

// All counts, with a few bytes there, and with about as many as the count says.
func TestReadOfAllCounts(t *testing.T) {
	zeros := make([]byte, 1<<16)
	for code := range 6 {
		for count := range 1 << 16 {
			isRead(t, put(code, 1, count))
			isRead(t, put(code, 1, count, 13, 0))
		}
		for _, count := range []int{254, 255, 256, 257, most - 2, most - 1, most, most + 1, most + 2, 1<<15 - 1, 1 << 15, 1<<16 - 2, 1<<16 - 1} {
			for n := count - 6; n < count+3 && n < len(zeros); n++ {
				isRead(t, put(code, 1, count, zeros[:n]...))
				isRead(t, put(code, 1, count, append([]byte{13}, zeros[:n-1]...)...))
			}
		}
	}
}

func TestReadErrorsInTurn(t *testing.T) {
	big := make([]byte, 1<<16+8)
	big[0] = 13
	for code := range 6 {
		// Too few bytes are told ahead of all that is wrong in them.
		isReadAs(t, put(code, 1, 6, 13), api.ErrTail)
		isReadAs(t, put(code, 1, 5), api.ErrTail)
		isReadAs(t, put(code, 1, most+1, big[:most-4]...), api.ErrTail)
		isReadAs(t, put(code, 1, 1<<16-1, big[:1<<16-6]...), api.ErrTail)
		// A count of less than a head isn't one of too few bytes.
		for count := range 4 {
			isReadAs(t, put(code, 1, count), api.ErrForm)
			isReadAs(t, put(code, 1, count, 13), api.ErrForm)
		}
		isReadAs(t, put(code, 1, most+1, big[:most-3]...), api.ErrForm)
		isReadAs(t, put(code, 1, 1<<16-1, big[:1<<16-5]...), api.ErrForm)
		// As many as the count's two bytes would say, if they were more.
		isReadAs(t, put(code, 1, 0, big[:1<<16-4]...), api.ErrForm)
		isReadAs(t, put(code, 1, 5, big[:1<<16-4+5]...), api.ErrForm)
		isReadAs(t, put(code, 1, 4, big[:1<<16-4+4]...), api.ErrForm)
	}
	for code := 1; code <= 2; code++ {
		isReadAs(t, put(code, 1, most, big[:most-4]...), api.OK)
		isReadAs(t, put(code, 1, most, big[:most-3]...), api.ErrForm)
		isReadAs(t, put(code, 1, 4), api.ErrForm)
		isReadAs(t, put(code, 1, 5, 0), api.ErrForm)
		isReadAs(t, put(code, 1, 6, 0, 13), api.ErrForm)
		isReadAs(t, put(code, 1, 5, 1), api.OK)
		isReadAs(t, put(code, 1, 5, 1, 0), api.ErrForm)
	}
	for code := 3; code <= 4; code++ {
		isReadAs(t, put(code, 1, 4), api.OK)
		isReadAs(t, put(code, 1, 4, 0), api.ErrForm)
		isReadAs(t, put(code, 1, 5, 0), api.ErrForm)
		isReadAs(t, put(code, 1, 5, 1), api.ErrForm)
		isReadAs(t, put(code, 1, 6, 0, 0), api.ErrForm)
	}
	for _, code := range []int{0, 5, 6, 127, 128, 254, 255} {
		isReadAs(t, put(code, 1, 4), api.ErrForm)
		isReadAs(t, put(code, 1, 5, 1), api.ErrForm)
	}
}

// No beginning of a packet is one, nor is a packet with something behind it.
func TestReadOfEachBeginning(t *testing.T) {
	for _, p := range packets() {
		b := bytesOf(p)
		for n := range b {
			isReadAs(t, b[:n], api.ErrTail)
		}
		isReadAs(t, b, api.OK)
		for _, behind := range [][]byte{{0}, {1}, {0, 0}, make([]byte, 40), b} {
			isReadAs(t, append(bytes.Clone(b), behind...), api.ErrForm)
		}
	}
}

// A byte changed, left out, or added.
func TestReadOfChangedBytes(t *testing.T) {
	for _, p := range packets() {
		b := bytesOf(p)
		for i := range b[:min(len(b), 12)] {
			isRead(t, append(bytes.Clone(b[:i]), b[i+1:]...))
			for c := range 256 {
				changed := bytes.Clone(b)
				changed[i] = byte(c)
				isRead(t, changed)
				isRead(t, append(append(bytes.Clone(b[:i]), byte(c)), b[i:]...))
			}
		}
	}
}

func TestReadOfAnyBytes(t *testing.T) {
	r := rand.New(rand.NewSource(5))
	for range 40000 {
		b := make([]byte, r.Intn(30))
		r.Read(b)
		for i, c := range []byte{byte(r.Intn(6)), byte(r.Intn(256)), 0, byte(len(b) + r.Intn(3) - 1), byte(r.Intn(3))} {
			if i < len(b) && r.Intn(8) > 0 {
				b[i] = c
			}
		}
		isRead(t, b)
	}
}

// Two packets that aren't the same haven't the same bytes.
func TestBytesTellPacketsApart(t *testing.T) {
	all := map[string]eap.Packet{}
	for code := range 6 {
		for _, id := range []int{0, 1, 2, 255} {
			for _, typ := range []int{0, 1, 13, 255} {
				for _, data := range []string{"", "\x00", "\x01", "\x00\x00", "\x01\x00", "bob"} {
					p := eap.Packet{Code: code, Id: id, Type: typ, Data: []byte(data)}
					b, e := eap.Write(p)
					if e != api.OK {
						continue
					}
					if other, there := all[string(b)]; there {
						t.Errorf("%x: %s, and %s", b, named(p), named(other))
					}
					all[string(b)] = p
				}
			}
		}
	}
	if len(all) != 2*4*3*6+2*4 {
		t.Errorf("%d packets", len(all))
	}
}
