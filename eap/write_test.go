package eap_test

import (
	"fmt"
	"math"
	"testing"

	"tollgate/api"
	"tollgate/eap"
	"tollgate/sample"
)

func TestNames(t *testing.T) {
	if eap.Request != 1 || eap.Response != 2 || eap.Success != 3 || eap.Failure != 4 || eap.Identity != 1 || eap.Nak != 3 || eap.Tls != 13 {
		t.Error("a code or a type has another number")
	}
}

func TestExamples(t *testing.T) {
	for digits, p := range map[string]eap.Packet{
		"02 07 0008 01 62 6F 62": {Code: eap.Response, Id: 7, Type: eap.Identity, Data: []byte("bob")},
		"03 07 0004":             {Code: eap.Success, Id: 7},
		"04 FF 0004":             {Code: eap.Failure, Id: 255},
		"01 00 0005 01":          {Code: eap.Request, Type: eap.Identity},
		"02 08 0006 03 0D":       {Code: eap.Response, Id: 8, Type: eap.Nak, Data: []byte{eap.Tls}},
		"01 01 0006 0D 20":       {Code: eap.Request, Id: 1, Type: eap.Tls, Data: []byte{0x20}},
		"01 01 0006 FF 00":       {Code: eap.Request, Id: 1, Type: 255, Data: []byte{0}},
	} {
		want := sample.Bytes(t, digits)
		b, e := eap.Write(p)
		if e != api.OK || string(b) != string(want) {
			t.Errorf("%s: %x, error %d", named(p), b, e)
		}
		if again, e := eap.Read(want); e != api.OK || !same(again, p) {
			t.Errorf("%s: %s, error %d", digits, named(again), e)
		}
	}
}

// numbers stand about the edges of a byte, or have the last byte of one that may be.
func numbers() []int {
	return []int{math.MinInt, math.MinInt + 1, math.MinInt32 + 1, -1<<16 + 1, -256, -255, -254, -2, -1, 0, 1, 2, 3, 4, 5, 6, 13, 127, 128, 254, 255, 256, 257, 258, 259, 260, 261,
		512, 513, 1<<16 + 1, 1<<16 + 3, 1<<32 + 1, 1<<32 + 3, math.MaxInt - 1, math.MaxInt}
}

// Each of these as Code, Id and Type, with Data and without.
func TestWriteOfNumbers(t *testing.T) {
	for _, code := range numbers() {
		for _, id := range numbers() {
			for _, typ := range numbers() {
				for _, data := range [][]byte{nil, {}, {0}, []byte("bob")} {
					isWritten(t, eap.Packet{Code: code, Id: id, Type: typ, Data: data})
				}
			}
		}
	}
}

// All Ids and all types that there are, and some that there aren't.
func TestWriteOfAllIdsAndTypes(t *testing.T) {
	for code := range 7 {
		for n := -3; n < 300; n++ {
			isWritten(t, eap.Packet{Code: code, Id: n})
			isWritten(t, eap.Packet{Code: code, Id: n, Type: 13, Data: []byte{1}})
			isWritten(t, eap.Packet{Code: code, Type: n})
			isWritten(t, eap.Packet{Code: code, Type: n, Data: []byte{1}})
		}
	}
}

// All counts of Data up to some beyond the most, which a Request and a Response alone may have.
func TestWriteOfSizes(t *testing.T) {
	for n := range most + 10 {
		for code := 1; code <= 2; code++ {
			isWritten(t, eap.Packet{Code: code, Id: 9, Type: 13, Data: sample.Filled(n, code)})
		}
	}
	for _, n := range []int{1, 2, 255, 256, most - 5, most - 4, most, 1<<16 - 5, 1 << 16, 1<<16 + 1, 1 << 20} {
		for code := range 6 {
			isWritten(t, eap.Packet{Code: code, Type: 13, Data: make([]byte, n)})
			isWritten(t, eap.Packet{Code: code, Data: make([]byte, n)})
		}
	}
}

func TestWriteAtTheMost(t *testing.T) {
	for code := eap.Request; code <= eap.Response; code++ {
		if b, e := eap.Write(eap.Packet{Code: code, Type: 1, Data: make([]byte, 4091)}); e != api.OK || len(b) != 4096 {
			t.Errorf("code %d: %d bytes, error %d", code, len(b), e)
		}
		if b, e := eap.Write(eap.Packet{Code: code, Type: 1, Data: make([]byte, 4092)}); e != api.ErrForm || len(b) > 0 {
			t.Errorf("code %d: %d bytes, error %d", code, len(b), e)
		}
	}
}

// What holds for a Request holds for a Response, and for a Success what for a Failure: but for the first byte.
func TestCodesInPairs(t *testing.T) {
	for _, p := range append(packets(), wrongPackets()...) {
		for _, pair := range [][2]int{{1, 2}, {3, 4}} {
			var all [2]string
			for i, code := range pair {
				p.Code = code
				b, e := eap.Write(p)
				if e == api.OK && int(b[0]) != code {
					t.Errorf("%s: %x", named(p), b)
				}
				all[i] = fmt.Sprintf("%x, error %d", b[min(1, len(b)):], e)
			}
			if all[0] != all[1] {
				t.Errorf("codes %d: %s, but %s", pair, all[0], all[1])
			}
		}
	}
}
