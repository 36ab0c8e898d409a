package hello_test

import (
	"bytes"
	"crypto/sha256"
	"fmt"
	"math"
	"math/rand"
	"testing"

	"tollgate/api"
	"tollgate/hello"
	"tollgate/sample"
)

func TestConstants(t *testing.T) {
	for i, kind := range []int{hello.Client, hello.Server, hello.Ticket, hello.Extensions, hello.Certs, hello.Request, hello.Verify, hello.Finished} {
		if kind != kinds()[i] {
			t.Errorf("%d, not %d", kind, kinds()[i])
		}
	}
	if retried() != sha256.Sum256([]byte("HelloRetryRequest")) {
		t.Error("R isn't that of RFC 8446")
	}
}

// Bytes that are written out whole, so that the tests don't hang on their own words alone.
func TestKnownBytes(t *testing.T) {
	zeros := func(n int) string { return fmt.Sprintf("%0*d", 2*n, 0) }
	share := append([]byte{4}, bytes.Repeat([]byte{0x5A}, 64)...)
	shared := fmt.Sprintf("%x", share)
	for _, c := range []struct {
		m    hello.Msg
		want string
	}{
		{hello.Msg{Kind: 8}, "08 000002 0000"},
		{hello.Msg{Kind: 13}, "0D 00000B 00 0008 000D 0004 0002 0403"},
		{hello.Msg{Kind: 20, Mark: [32]byte{5, 31: 6}}, "14 000020 05" + zeros(30) + "06"},
		{hello.Msg{Kind: 15, Sig: []byte("sig")}, "0F 000007 0403 0003 736967"},
		{hello.Msg{Kind: 11}, "0B 000004 00 000000"},
		{hello.Msg{Kind: 11, Certs: [][]byte{[]byte("a"), []byte("bc")}}, "0B 000011 00 00000D 000001 61 0000 000002 6263 0000"},
		{hello.Msg{Kind: 4, Life: 1000, Age: 0xFFFFFFFF, Nonce: []byte{0}, Ticket: []byte("t")}, "04 00000F 000003E8 FFFFFFFF 01 00 0001 74 0000"},
		{hello.Msg{Kind: 1, Random: [32]byte{1}}, "01 000048 0303 01" + zeros(31) + "00 0002 1301 01 00 001D" +
			"002B 0003 02 0304 000A 0004 0002 0017 000D 0004 0002 0403 0033 0002 0000"},
		{hello.Msg{Kind: 1, Random: [32]byte{31: 2}, Session: []byte("se"), Share: share}, "01 00008F 0303" + zeros(31) + "02 02 7365 0002 1301 01 00 0062" +
			"002B 0003 02 0304 000A 0004 0002 0017 000D 0004 0002 0403 0033 0047 0045 0017 0041" + shared},
		{hello.Msg{Kind: 1, Share: share, Psk: true, Ticket: []byte("tick"), Age: 0x01020304, Mark: [32]byte{9}}, "01 0000C6 0303" + zeros(32) +
			"00 0002 1301 01 00 009B 002B 0003 02 0304 000A 0004 0002 0017 000D 0004 0002 0403 0033 0047 0045 0017 0041" + shared +
			"002D 0002 01 01 0029 002F 000A 0004 7469636B 01020304 0021 20 09" + zeros(31)},
		{hello.Msg{Kind: 2, Session: []byte("s"), Retry: true}, "02 000035 0303 CF21AD74E59A6111BE1D8C021E65B891C2A211167ABB8C5E079E09E2C8A8339C" +
			"01 73 1301 00 000C 002B 0002 0304 0033 0002 0017"},
		{hello.Msg{Kind: 2, Random: [32]byte{7}, Share: share}, "02 000077 0303 07" + zeros(31) + "00 1301 00 004F 002B 0002 0304 0033 0045 0017 0041" + shared},
		{hello.Msg{Kind: 2, Share: share, Psk: true}, "02 00007D 0303" + zeros(32) + "00 1301 00 0055 002B 0002 0304 0033 0045 0017 0041" + shared + "0029 0002 0000"},
	} {
		want := sample.Bytes(t, c.want)
		if b, e := hello.Write(c.m); e != api.OK || !bytes.Equal(b, want) {
			t.Errorf("%v: %x, not %x: error %d", c.m, b, want, e)
		}
		if m, n, e := hello.Read(want); e != api.OK || n != len(want) || !same(m, c.m) {
			t.Errorf("%x: %v, not %v: %d bytes, error %d", want, m, c.m, n, e)
		}
	}
}

func TestMessagesComeBack(t *testing.T) {
	for i, m := range messages() {
		if !isInForm(m) {
			t.Fatalf("message %d isn't in form", i)
		}
		isWritten(t, m, fmt.Sprint("message ", i))
	}
}

func TestWriteOfNoKinds(t *testing.T) {
	for _, kind := range noKinds() {
		for _, m := range messages() {
			m.Kind = kind
			isWritten(t, m, fmt.Sprint("kind ", kind))
		}
	}
}

func TestSizesOfSessions(t *testing.T) {
	for n := range 70 {
		for _, session := range [][]byte{sample.Filled(n, 1), make([]byte, n)} {
			what := fmt.Sprint("a session of ", n)
			isWritten(t, hello.Msg{Kind: 1, Session: session}, what)
			isWritten(t, hello.Msg{Kind: 1, Session: session, Share: share(1), Psk: true, Ticket: []byte("t")}, what)
			isWritten(t, hello.Msg{Kind: 2, Session: session, Share: share(1)}, what)
			isWritten(t, hello.Msg{Kind: 2, Session: session, Share: share(1), Psk: true}, what)
			isWritten(t, hello.Msg{Kind: 2, Session: session, Retry: true}, what)
		}
	}
	for _, n := range []int{255, 256, 256 + 5, 65536, 65536 + 32} {
		for _, m := range []hello.Msg{{Kind: 1}, {Kind: 2, Share: share(1)}, {Kind: 2, Retry: true}} {
			m.Session = make([]byte, n)
			isWritten(t, m, fmt.Sprint("a session of ", n))
		}
	}
}

func TestSizesOfShares(t *testing.T) {
	sizes := []int{128, 130, 255, 256, 256 + 65, 65535, 65536, 65536 + 65}
	for n := range 70 {
		sizes = append(sizes, n)
	}
	for _, n := range sizes {
		for _, share := range [][]byte{sample.Filled(n, 2), make([]byte, n)} {
			what := fmt.Sprint("a share of ", n)
			isWritten(t, hello.Msg{Kind: 1, Share: share}, what)
			isWritten(t, hello.Msg{Kind: 1, Share: share, Psk: true, Ticket: []byte("t")}, what)
			isWritten(t, hello.Msg{Kind: 2, Share: share}, what)
			isWritten(t, hello.Msg{Kind: 2, Share: share, Random: sum(1), Psk: true}, what)
			isWritten(t, hello.Msg{Kind: 2, Share: share, Retry: true}, what)
		}
	}
}

func TestSizesOfTickets(t *testing.T) {
	for _, n := range []int{0, 1, 2, 127, 128, 255, 256, 257, 511, 512, 999, 1000, 1001, 1002, 1256, 2000, 65535, 65536, 65537, 65536 + 1000} {
		for _, ticket := range [][]byte{sample.Filled(n, 3), make([]byte, n)} {
			what := fmt.Sprint("a ticket of ", n)
			isWritten(t, hello.Msg{Kind: 1, Psk: true, Ticket: ticket, Age: 7, Mark: sum(1)}, what)
			isWritten(t, hello.Msg{Kind: 1, Psk: true, Ticket: ticket, Share: share(1)}, what)
			isWritten(t, hello.Msg{Kind: 1, Ticket: ticket}, what)
			isWritten(t, hello.Msg{Kind: 4, Nonce: []byte{0}, Ticket: ticket}, what)
			isWritten(t, hello.Msg{Kind: 2, Share: share(1), Psk: true, Ticket: ticket}, what)
		}
	}
}

// numbers are those about the edges of four bytes, and others that have their last four bytes.
func numbers() []int {
	return []int{0, 1, 2, 255, 256, 65535, 65536, 1 << 24, 1<<31 - 1, 1 << 31, 1<<32 - 2, 1<<32 - 1, 1 << 32, 1<<32 + 1, 1 << 33, 1<<33 - 1, 1 << 62,
		-1, -2, -256, -1 << 31, -1 << 32, math.MinInt, math.MaxInt}
}

func TestNumbers(t *testing.T) {
	for _, n := range numbers() {
		what := fmt.Sprint("a number: ", n)
		isWritten(t, hello.Msg{Kind: 1, Psk: true, Ticket: []byte("t"), Age: n}, what)
		isWritten(t, hello.Msg{Kind: 1, Psk: true, Ticket: []byte("t"), Share: share(1), Age: n, Mark: sum(1)}, what)
		isWritten(t, hello.Msg{Kind: 1, Age: n}, what)
		isWritten(t, hello.Msg{Kind: 4, Age: n, Nonce: []byte{0}, Ticket: []byte("t")}, what)
		isWritten(t, hello.Msg{Kind: 4, Life: n, Nonce: []byte{0}, Ticket: []byte("t")}, what)
		isWritten(t, hello.Msg{Kind: 4, Life: n, Age: n, Nonce: []byte{0}, Ticket: []byte("t")}, what)
		isWritten(t, hello.Msg{Kind: 4, Life: n, Age: 5, Nonce: []byte{0}, Ticket: []byte("t")}, what)
	}
}

func TestSizesOfNoncesAndSigs(t *testing.T) {
	for n := range 300 {
		for _, b := range [][]byte{sample.Filled(n, 4), make([]byte, n)} {
			isWritten(t, hello.Msg{Kind: 4, Nonce: b, Ticket: []byte("t")}, fmt.Sprint("a nonce of ", n))
			isWritten(t, hello.Msg{Kind: 15, Sig: b}, fmt.Sprint("a signature of ", n))
		}
	}
	for _, n := range []int{65535, 65536, 65536 + 1, 65536 + 72} {
		isWritten(t, hello.Msg{Kind: 4, Nonce: make([]byte, n), Ticket: []byte("t")}, fmt.Sprint("a nonce of ", n))
		isWritten(t, hello.Msg{Kind: 15, Sig: make([]byte, n)}, fmt.Sprint("a signature of ", n))
	}
}

func TestNumbersOfCerts(t *testing.T) {
	for n := range 12 {
		for _, size := range []int{0, 1, 2, 255, 256, 2047, 2048, 2049, 2050, 4096, 1 << 16, 1<<16 + 1} {
			certs := make([][]byte, n)
			for i := range certs {
				certs[i] = sample.Filled(size, i)
			}
			isWritten(t, hello.Msg{Kind: 11, Certs: certs}, fmt.Sprintf("%d certificates of %d", n, size))
		}
	}
}

// One that is otherwise than the others, at each place.
func TestSizesOfCerts(t *testing.T) {
	for n := 1; n <= 6; n++ {
		for at := range n {
			for _, size := range []int{0, 1, 2048, 2049} {
				certs := make([][]byte, n)
				for i := range certs {
					certs[i] = sample.Filled(3, i)
				}
				certs[at] = sample.Filled(size, at)
				isWritten(t, hello.Msg{Kind: 11, Certs: certs}, fmt.Sprintf("of %d certificates one of %d", n, size))
			}
		}
	}
}

// fillings fill one part each.
func fillings() []func(m *hello.Msg) {
	return []func(m *hello.Msg){
		func(m *hello.Msg) { m.Random = [32]byte{1} }, func(m *hello.Msg) { m.Random = [32]byte{31: 128} }, func(m *hello.Msg) { m.Random = retried() },
		func(m *hello.Msg) { m.Mark = [32]byte{1} }, func(m *hello.Msg) { m.Mark = [32]byte{31: 128} },
		func(m *hello.Msg) { m.Session = []byte{0} }, func(m *hello.Msg) { m.Session = sample.Filled(32, 1) },
		func(m *hello.Msg) { m.Share = make([]byte, 65) }, func(m *hello.Msg) { m.Share = []byte{0} },
		func(m *hello.Msg) { m.Ticket = []byte{0} }, func(m *hello.Msg) { m.Ticket = sample.Filled(1000, 1) },
		func(m *hello.Msg) { m.Nonce = []byte{0} }, func(m *hello.Msg) { m.Nonce = sample.Filled(8, 1) },
		func(m *hello.Msg) { m.Sig = []byte{0} }, func(m *hello.Msg) { m.Sig = sample.Filled(100, 1) },
		func(m *hello.Msg) { m.Certs = [][]byte{{0}} }, func(m *hello.Msg) { m.Certs = [][]byte{nil} }, func(m *hello.Msg) { m.Certs = [][]byte{{}, {1}} },
		func(m *hello.Msg) { m.Life = 1 }, func(m *hello.Msg) { m.Life = -1 }, func(m *hello.Msg) { m.Life = 1 << 32 },
		func(m *hello.Msg) { m.Age = 1 }, func(m *hello.Msg) { m.Age = -1 }, func(m *hello.Msg) { m.Age = 1 << 32 },
		func(m *hello.Msg) { m.Psk = true }, func(m *hello.Msg) { m.Retry = true },
	}
}

// Each part filled, and each two of them, in each kind; where it isn't named, there is no such message.
func TestEachPartFilled(t *testing.T) {
	refused := 0
	for i, m := range messages() {
		for j, fill := range fillings() {
			filled := copied(m)
			fill(&filled)
			isWritten(t, filled, fmt.Sprintf("message %d, part %d filled", i, j))
			if !isInForm(filled) {
				refused++
			}
			for k, fill := range fillings()[:j] {
				filled := copied(filled)
				fill(&filled)
				isWritten(t, filled, fmt.Sprintf("message %d, parts %d and %d filled", i, j, k))
			}
		}
	}
	if refused < 300 {
		t.Errorf("just %d are not in form", refused)
	}
}

// Each part emptied, in each kind.
func TestEachPartEmptied(t *testing.T) {
	for i, m := range messages() {
		for j, empty := range []func(m *hello.Msg){
			func(m *hello.Msg) { m.Random = [32]byte{} }, func(m *hello.Msg) { m.Mark = [32]byte{} }, func(m *hello.Msg) { m.Session = []byte{} },
			func(m *hello.Msg) { m.Share = nil }, func(m *hello.Msg) { m.Share = []byte{} }, func(m *hello.Msg) { m.Ticket = nil }, func(m *hello.Msg) { m.Ticket = []byte{} },
			func(m *hello.Msg) { m.Nonce = nil }, func(m *hello.Msg) { m.Nonce = []byte{} }, func(m *hello.Msg) { m.Sig = nil }, func(m *hello.Msg) { m.Sig = []byte{} },
			func(m *hello.Msg) { m.Certs = [][]byte{} }, func(m *hello.Msg) { m.Life, m.Age = 0, 0 }, func(m *hello.Msg) { m.Psk = false }, func(m *hello.Msg) { m.Retry = false },
		} {
			emptied := copied(m)
			empty(&emptied)
			isWritten(t, emptied, fmt.Sprintf("message %d, part %d emptied", i, j))
		}
	}
}

// Empty lists that aren't nil are the same as none.
func TestEmptyLists(t *testing.T) {
	for i, m := range messages() {
		empty := copied(m)
		for _, list := range []*[]byte{&empty.Session, &empty.Share, &empty.Ticket, &empty.Nonce, &empty.Sig} {
			if len(*list) == 0 {
				*list = []byte{}
			}
		}
		if len(empty.Certs) == 0 {
			empty.Certs = [][]byte{}
		}
		isWritten(t, empty, fmt.Sprint("message with empty lists ", i))
	}
}

// A Server's Random: noughts, R, and those beside it.
func TestServersRandom(t *testing.T) {
	for i := range 32 {
		for bit := range 8 {
			random := retried()
			random[i] ^= 1 << bit
			isWritten(t, hello.Msg{Kind: 2, Random: random, Share: share(1)}, "a Server with nearly R")
			isRead(t, serverOf(random, nil, "002B 0002 0304 0033 0002 0017"))
		}
	}
	for _, random := range [][32]byte{{}, retried(), sum(1), {31: 1}} {
		for _, share := range [][]byte{nil, share(1)} {
			for _, psk := range []bool{false, true} {
				for _, retry := range []bool{false, true} {
					m := hello.Msg{Kind: 2, Random: random, Share: share, Psk: psk, Retry: retry}
					isWritten(t, m, fmt.Sprintf("a Server: %.8x, a share of %d, %t, %t", random, len(share), psk, retry))
				}
			}
		}
	}
	isWritten(t, hello.Msg{Kind: 1, Random: retried(), Share: share(1)}, "a Client with R")
}

// anyBytes are some about the edges of most.
func anyBytes(r *rand.Rand, most int) []byte {
	n := []int{0, 0, 1, r.Intn(most + 1), most, most, most + 1}[r.Intn(7)]
	return sample.Filled(n, r.Intn(1000))
}

func anyNumber(r *rand.Rand) int {
	return []int{0, 1, r.Intn(1 << 32), 1<<32 - 1, 1 << 32, -1}[r.Intn(6)]
}

// anyMessage has the parts that are named for its kind, often in form, and sometimes another one.
func anyMessage(rnd *rand.Rand) hello.Msg {
	m := hello.Msg{Kind: kinds()[rnd.Intn(8)], Random: sum(rnd.Intn(1000)), Mark: sum(rnd.Intn(1000)), Session: anyBytes(rnd, 32)}
	m.Ticket, m.Nonce, m.Sig = anyBytes(rnd, 1000), anyBytes(rnd, 8), anyBytes(rnd, 100)
	m.Life, m.Age, m.Psk, m.Retry = anyNumber(rnd), anyNumber(rnd), rnd.Intn(2) == 0, rnd.Intn(3) == 0
	m.Share = sample.Filled([]int{0, 65, 65, 65, 64, 66}[rnd.Intn(6)], rnd.Intn(1000))
	for range rnd.Intn(7) {
		m.Certs = append(m.Certs, sample.Filled(1+rnd.Intn(30), rnd.Intn(1000)))
	}
	if rnd.Intn(9) == 0 {
		m.Random = retried()
	}
	m = bare(m)
	for rnd.Intn(6) == 0 {
		fillings()[rnd.Intn(len(fillings()))](&m)
	}
	return m
}

func TestAnyMessages(t *testing.T) {
	r := rand.New(rand.NewSource(7))
	good := make([]int, 21)
	bad := make([]int, 21)
	for i := range 20000 {
		m := anyMessage(r)
		isWritten(t, m, fmt.Sprint("by chance ", i))
		if isInForm(m) {
			good[m.Kind]++
		} else {
			bad[m.Kind]++
		}
	}
	for _, kind := range kinds() {
		if good[kind] < 100 || bad[kind] < 100 {
			t.Errorf("kind %d: %d in form, %d not", kind, good[kind], bad[kind])
		}
	}
}
