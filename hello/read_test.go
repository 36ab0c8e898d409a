package hello_test

import (
	"bytes"
	"fmt"
	"math/rand"
	"slices"
	"testing"

	"tollgate/api"
	"tollgate/hello"
	"tollgate/sample"
)

// All beginnings of up to two bytes, and of three and four those about the counts' edges.
func TestReadOfShortBytes(t *testing.T) {
	isRead(t, nil)
	isRead(t, []byte{})
	for i := range 256 {
		isRead(t, []byte{byte(i)})
		for j := range 256 {
			isRead(t, []byte{byte(i), byte(j)})
		}
		for _, c := range []byte{0, 1, 0x7F, 0x80, 0x81, 0xFF} {
			isRead(t, []byte{byte(i), c, c})
			for _, d := range []byte{0, 1, 2, 32, 0xFF} {
				isRead(t, []byte{byte(i), 0, c, d})
				isRead(t, []byte{byte(i), c, 0, d})
				isRead(t, []byte{byte(i), c, d, 0, 0})
			}
		}
	}
}

// Of four bytes, and of some more, each count.
func TestReadOfCounts(t *testing.T) {
	for _, kind := range kinds() {
		for count := range 1 << 17 {
			b := put(num(1, kind), num(3, count))
			if count%64 == 0 || count < 256 || count > most-3 && count < most+3 {
				isRead(t, b)
				isRead(t, append(b, 0, 0))
			}
		}
		for _, count := range []int{1 << 17, 1<<17 + 2, 1 << 23, 1<<23 + 2, 1<<24 - 1} {
			isRead(t, put(num(1, kind), num(3, count)))
		}
	}
}

// Counts about the most: with as many bytes there, with more, and with fewer, down to none of the count's own.
func TestReadOfBigCounts(t *testing.T) {
	for _, kind := range kinds() {
		for _, count := range []int{most - 1, most, most + 1, most + 2, 1 << 16, 1<<16 + 2, 1 << 17} {
			whole, short := api.ErrForm, api.ErrTail
			if count > most {
				whole, short = api.ErrBig, api.ErrBig
			}
			b := put(num(1, kind), num(3, count), make([]byte, count))
			for _, all := range [][]byte{b, put(b, "00"), put(b, b)} {
				isReadAs(t, all, whole)
			}
			for _, n := range []int{4, 5, 100, len(b) - 2, len(b) - 1} {
				isReadAs(t, b[:n], short)
			}
			for n := range 4 {
				isReadAs(t, b[:n], api.ErrTail)
			}
			// Those whose inner counts go on to the body's end.
			isReadAs(t, msg(kind, "00", in(3, make([]byte, count-4))), whole)
			isReadAs(t, msg(kind, "0403", in(2, make([]byte, min(count, 1<<16)-4))), whole)
		}
	}
	for _, count := range []int{0, most, most + 1, 1<<24 - 1} {
		isReadAs(t, put("03", num(3, count)), api.ErrForm)
		isReadAs(t, put("FE", num(3, count), make([]byte, 40000)), api.ErrForm)
	}
}

func isReadAs(t *testing.T, b []byte, want api.Errno) {
	t.Helper()
	if e := isRead(t, b); e != want {
		t.Errorf("%.20x (%d bytes): error %d, not %d", b, len(b), e, want)
	}
}

func TestReadOfNoKinds(t *testing.T) {
	for kind := range 256 {
		for _, m := range messages() {
			b := bytesOf(m)
			b[0] = byte(kind)
			if e := isRead(t, b); !slices.Contains(kinds(), kind) && e != api.ErrForm {
				t.Errorf("kind %d: error %d", kind, e)
			}
		}
	}
}

func TestReadOfEachBeginning(t *testing.T) {
	for _, m := range append(messages(), biggest()...) {
		b := bytesOf(m)
		for n := range b {
			if n > 300 && n < len(b)-300 && n%97 > 0 {
				continue
			}
			if e := isRead(t, b[:n]); e != api.ErrTail {
				t.Errorf("%.20x: the first %d bytes: error %d", b, n, e)
			}
			// Likewise, with a count that is theirs: the body ends too soon.
			if n >= 4 {
				if e := isRead(t, put(num(1, m.Kind), in(3, b[4:n]))); e != api.ErrForm {
					t.Errorf("%.20x: a body of the first %d bytes: error %d", b, n, e)
				}
			}
		}
	}
}

// biggest are those that have most bytes, of each kind.
func biggest() []hello.Msg {
	s := sample.Filled
	return []hello.Msg{
		{Kind: 1, Random: sum(1), Session: s(32, 1), Share: share(1), Psk: true, Ticket: s(1000, 1), Age: 1<<32 - 1, Mark: sum(2)},
		{Kind: 2, Random: sum(3), Session: s(32, 2), Share: share(2), Psk: true},
		{Kind: 4, Life: 1<<32 - 1, Age: 1<<32 - 1, Nonce: s(8, 1), Ticket: s(1000, 2)},
		{Kind: 11, Certs: [][]byte{s(2048, 1), s(2048, 2), s(2048, 3), s(2048, 4), s(2048, 5)}},
		{Kind: 15, Sig: s(100, 1)},
	}
}

func TestBiggestComeBack(t *testing.T) {
	for i, m := range biggest() {
		isWritten(t, m, fmt.Sprint("the biggest ", i))
		if !isInForm(m) {
			t.Errorf("the biggest %d isn't in form", i)
		}
	}
}

// Each byte of each message changed, in each way.
func TestReadOfChangedBytes(t *testing.T) {
	good := 0
	for _, m := range messages() {
		b := bytesOf(m)
		for i := range b {
			was := b[i]
			for c := range 256 {
				b[i] = byte(c)
				if isRead(t, b) == api.OK {
					good++
				}
			}
			b[i] = was
		}
	}
	if good < 1000 {
		t.Errorf("just %d are messages", good)
	}
}

// A byte left out, or added, with the count as it was and with one that is right.
func TestReadOfBytesLeftOutOrAdded(t *testing.T) {
	for _, m := range messages() {
		b := bytesOf(m)
		for i := range b {
			all := [][]byte{slices.Delete(bytes.Clone(b), i, i+1)}
			for _, c := range []byte{0, 1, b[i], b[i] ^ 0x80, 0xFF} {
				all = append(all, slices.Insert(bytes.Clone(b), i, c), slices.Insert(bytes.Clone(b), i+1, c))
			}
			for _, wrong := range all {
				isRead(t, wrong)
				if len(wrong) >= 4 {
					isRead(t, put(wrong[:1], in(3, wrong[4:])))
				}
			}
		}
	}
}

// A byte added or left out, and another count that is one more or less: so may two that belong together be.
func TestReadOfCountsWithTheirBytes(t *testing.T) {
	good := 0
	for _, m := range messages() {
		b := bytesOf(m)
		if len(b) > 140 {
			b = bytesOf(bareShare(m))
		}
		for i := 4; i < len(b); i++ {
			longer := slices.Insert(bytes.Clone(b), i, 7)
			shorter := slices.Delete(bytes.Clone(b), i, i+1)
			for j := 4; j < len(b)-1; j++ {
				good += isReadWith(t, longer, j, 1) + isReadWith(t, shorter, j, 255)
			}
		}
	}
	if good < 100 {
		t.Errorf("just %d are messages", good)
	}
}

// bareShare is a message without a Share, if it may be so.
func bareShare(m hello.Msg) hello.Msg {
	if m.Kind == 1 {
		m.Share = nil
	}
	return m
}

// isReadWith: b's body, with one byte changed by so much; 1, if it is a message.
func isReadWith(t *testing.T, b []byte, at int, by byte) int {
	t.Helper()
	changed := put(b[:1], in(3, b[4:]))
	changed[at] += by
	if isRead(t, changed) == api.OK {
		return 1
	}
	return 0
}

// Messages that stand one behind the other are read one by one.
func TestReadOneByOne(t *testing.T) {
	all := append(messages(), biggest()...)
	var b []byte
	for _, m := range all {
		b = append(b, bytesOf(m)...)
	}
	for i, want := range all {
		isRead(t, b)
		m, n, e := hello.Read(b)
		if e != api.OK || !same(m, want) {
			t.Fatalf("message %d: %v, not %v: error %d", i, m, want, e)
		}
		b = b[n:]
	}
	if len(b) > 0 {
		t.Errorf("%d bytes are left", len(b))
	}
}

// Each message with each other behind it, and with something that is none.
func TestReadOfTwo(t *testing.T) {
	for _, m := range messages() {
		for _, n := range messages() {
			b := put(bytesOf(m), bytesOf(n))
			if e := isRead(t, b); e != api.OK {
				t.Errorf("%.20x: error %d", b, e)
			}
			isRead(t, put(num(1, m.Kind), in(3, b[4:])))
		}
		isRead(t, put(bytesOf(m), "03 FFFFFF"))
		isRead(t, put(bytesOf(m), sample.Filled(70000, 1)))
		isRead(t, put("03", bytesOf(m)))
	}
}

// A Client's extensions in each order, each left out, each there twice: just one way is right.
func TestReadOfOtherClients(t *testing.T) {
	psk := preShared([]byte("tick"), 5, sum(1))
	all := [][]byte{versions(), groups(), ways(), keyShare(share(1)), keyShare(nil), modes(), psk, put("0000 0000"), put("0015 0001 00")}
	good := 0
	for n := 1; n <= 6; n++ {
		for at := range pow(len(all), n) {
			var held []any
			for i := at; len(held) < n; i /= len(all) {
				held = append(held, all[i%len(all)])
			}
			// Of the longer ones those that begin aright are enough.
			if n > 4 && (at%len(all) != 0 || at/len(all)%len(all) != 1) {
				continue
			}
			if isRead(t, clientOf(sum(2), nil, held...)) == api.OK {
				good++
			}
		}
	}
	if good != 4 {
		t.Errorf("%d of these are messages, not 4", good)
	}
}

func pow(n, times int) int {
	all := 1
	for range times {
		all *= n
	}
	return all
}

// What RFC 8446 has, but not the document: each with counts that are right.
func TestReadOfWhatIsNotOurs(t *testing.T) {
	psk := preShared([]byte("tick"), 5, sum(1))
	first := put(versions(), groups(), ways())
	bare, with := put(first, keyShare(nil)), put(first, keyShare(nil), modes(), psk)
	random, one := sum(2), in(2, share(1))
	client := func(head string, rest ...any) []byte { return msg(1, put("0303", random), put(head), put(rest...)) }
	for i, b := range [][]byte{
		client("00 0004 1301 1302 01 00", in(2, bare)), client("00 0002 1302 01 00", in(2, bare)), client("00 0000 01 00", in(2, bare)),
		client("00 0002 1301 02 00 01", in(2, bare)), client("00 0002 1301 01 01", in(2, bare)), client("00 0002 1301 00", in(2, bare)),
		client("00 0002 1301 01 00"), client("00 0002 1301 01 00", "0000"), client("00 0002 1301 01 00", in(2, bare), "00"), client("00 0002 1301 01 00", in(2, with), "00"),
		msg(1, "0301", random, "00 0002 1301 01 00", in(2, bare)), msg(1, "0304", random, "00 0002 1301 01 00", in(2, bare)),
		clientOf(random, nil, "002B 0005 04 0304 0303", groups(), ways(), keyShare(nil)), clientOf(random, nil, "002B 0003 02 0303", groups(), ways(), keyShare(nil)),
		clientOf(random, nil, versions(), "000A 0006 0004 0017 0018", ways(), keyShare(nil)), clientOf(random, nil, versions(), "000A 0004 0002 001D", ways(), keyShare(nil)),
		clientOf(random, nil, versions(), groups(), "000D 0006 0004 0403 0804", keyShare(nil)), clientOf(random, nil, versions(), groups(), "000D 0004 0002 0804", keyShare(nil)),
		clientOf(random, nil, first, "0033", in(2, in(2, "0017", one, "0017", one))), clientOf(random, nil, first, "0033", in(2, in(2, "001D", one))),
		clientOf(random, nil, first, "0033", in(2, in(2, "0017", in(2, sample.Filled(64, 1))))), clientOf(random, nil, first, "0033", in(2, in(2, "0017", in(2, sample.Filled(66, 1))))),
		clientOf(random, nil, first, "0033", in(2, in(2, "0017 0000"))), clientOf(random, nil, first, "0033", in(2, in(2, "0017", one), "00")), clientOf(random, nil, first, "0033 0000"),
		clientOf(random, nil, first, "0033", in(2, in(2, "0017", one, "00"))), clientOf(random, nil, first, "0033", in(2, "0017", one)),
		clientOf(random, nil, bare, "002D 0003 02 01 00", psk), clientOf(random, nil, bare, "002D 0002 01 00", psk), clientOf(random, nil, bare, psk), clientOf(random, nil, bare, modes()),
		clientOf(random, nil, bare, psk, modes()), clientOf(random, nil, with, "0015 0000"), clientOf(random, nil, with, with),
		clientOf(random, nil, bare, modes(), preShared(nil, 5, sum(1))), clientOf(random, nil, bare, modes(), preShared(sample.Filled(1001, 1), 5, sum(1))),
		clientOf(random, nil, bare, modes(), "0029", in(2, in(2, in(2, "01"), num(4, 5), in(2, "02"), num(4, 5)), "0021 20", sum(1))),
		clientOf(random, nil, bare, modes(), "0029", in(2, in(2, in(2, "01"), num(4, 5)), "0042 20", sum(1), "20", sum(1))),
		clientOf(random, nil, bare, modes(), "0029", in(2, in(2, in(2, "01"), num(4, 5)), "0031 30", make([]byte, 48))),
		clientOf(random, nil, bare, modes(), "0029", in(2, in(2, in(2, "01"), num(4, 5)), "0020 1F", make([]byte, 31))),
		clientOf(random, nil, bare, modes(), "0029", in(2, in(2, in(2, "01"), num(3, 5)), "0021 20", sum(1))),
		clientOf(random, nil, bare, modes(), "0029", in(2, in(2, in(2, "01"), num(4, 5)), "0021 20", sum(1), "00")),
		clientOf(random, nil, bare, modes(), "0029", in(2, in(2, in(2, "01"), num(4, 5)))), clientOf(random, nil, bare, modes(), "0029", in(2, "0000 0021 20", sum(1))),
		clientOf(random, sample.Filled(33, 1), bare), clientOf(random, sample.Filled(255, 1), bare), clientOf(random, sample.Filled(33, 1), with),
	} {
		if e := isRead(t, b); e != api.ErrForm {
			t.Errorf("a Client that isn't ours, %d: error %d", i, e)
		}
	}
	for i, b := range [][]byte{clientOf(random, nil, bare), clientOf(random, sample.Filled(32, 1), with)} {
		if e := isRead(t, b); e != api.OK {
			t.Errorf("a Client that is ours, %d: error %d", i, e)
		}
	}
}

func TestReadOfOtherServers(t *testing.T) {
	version, key, name, psk, random := put("002B 0002 0304"), put("0033 0045 0017", in(2, share(1))), put("0033 0002 0017"), put("0029 0002 0000"), sum(1)
	for i, b := range [][]byte{
		serverOf(random, nil), serverOf(random, nil, version), serverOf(random, nil, key), serverOf(random, nil, key, version), serverOf(random, nil, version, name),
		serverOf(random, nil, version, name, psk), serverOf(random, nil, version, psk), serverOf(random, nil, version, psk, key), serverOf(random, nil, version, key, key),
		serverOf(random, nil, version, version, key), serverOf(random, nil, version, key, psk, psk), serverOf(random, nil, version, key, "0029 0002 0001"),
		serverOf(random, nil, version, key, "0029 0000"), serverOf(random, nil, version, key, "00"), serverOf(random, nil, version, key, psk, "00"),
		serverOf(random, nil, "002B 0002 0303", key), serverOf(random, nil, version, "0033 0045 001D", in(2, share(1))), serverOf(random, nil, version, "0033 0044 0017", in(2, make([]byte, 64))),
		serverOf(random, nil, version, "0033 0046 0017", in(2, make([]byte, 66))), serverOf(random, nil, version, "0033 0004 0017 0000"), serverOf(random, nil, version, "0033 0002 001D"),
		serverOf(retried(), nil, version, key), serverOf(retried(), nil, version, key, psk), serverOf(retried(), nil, version, name, psk), serverOf(retried(), nil, version),
		serverOf(retried(), nil, name), serverOf(retried(), nil, name, version), serverOf(retried(), nil, version, "0033 0002 0018"), serverOf(retried(), nil, version, name, "002C 0003 0001 00"),
		serverOf(retried(), nil, version, name, "00"), serverOf(retried(), sample.Filled(33, 1), version, name), serverOf(random, sample.Filled(33, 1), version, key),
		serverOf([32]byte{}, nil, version, name), msg(2, "0304", random, "00 1301 00", in(2, version, key)), msg(2, "0303", random, "00 1302 00", in(2, version, key)),
		msg(2, "0303", random, "00 1301 01", in(2, version, key)), msg(2, "0303", random, "00 1301 00", in(2, version, key), "00"), msg(2, "0303", random, "00 1301 00"),
		msg(2, "0303", retried(), "00 1302 00", in(2, version, name)), msg(2, "0303", retried(), "00 1301 01", in(2, version, name)), msg(2, "0301", retried(), "00 1301 00", in(2, version, name)),
	} {
		if e := isRead(t, b); e != api.ErrForm {
			t.Errorf("a Server that isn't ours, %d: error %d", i, e)
		}
	}
	for i, b := range [][]byte{serverOf(random, nil, version, key), serverOf([32]byte{}, nil, version, key, psk), serverOf(retried(), sample.Filled(32, 1), version, name)} {
		if e := isRead(t, b); e != api.OK {
			t.Errorf("a Server that is ours, %d: error %d", i, e)
		}
	}
}

func TestReadOfOtherMessages(t *testing.T) {
	life, ticket := put("00000001 00000002"), in(2, "01")
	for i, b := range [][]byte{
		msg(4, life, in(1), ticket, "0000"), msg(4, life, in(1, make([]byte, 9)), ticket, "0000"), msg(4, life, in(1, "00"), in(2), "0000"),
		msg(4, life, in(1, "00"), in(2, make([]byte, 1001)), "0000"), msg(4, life, in(1, "00"), ticket), msg(4, life, in(1, "00"), ticket, "00"),
		msg(4, life, in(1, "00"), ticket, "0000 00"), msg(4, life, in(1, "00"), ticket, "0008 002A 0004 00000000"), msg(4, life, in(1, "00"), ticket, "0001"), msg(4, life, "00"),
		msg(8), msg(8, "00"), msg(8, "0001"), msg(8, "0000 00"), msg(8, "0004 0010 0000"), msg(8, "0001 00"), msg(8, "0000 0000"),
		msg(11), msg(11, "00"), msg(11, "01 00 000000"), msg(11, "00 000000 00"), msg(11, "01 000000"), msg(11, "00 000001"), msg(11, "00 000001 00"),
		msg(11, "00", in(3, in(3), "0000")), msg(11, "00", in(3, in(3, "01"))), msg(11, "00", in(3, in(3, "01"), "00")), msg(11, "00", in(3, in(3, "01"), "0001 00")),
		msg(11, "00", in(3, in(3, "01"), "0000", "00")), msg(11, "00", in(3, in(3, "01"), "0000"), "00"), msg(11, "00", in(3, in(3, make([]byte, 2049)), "0000")),
		msg(11, "00", in(3, in(3, "01"), "0000", in(3), "0000")), msg(11, "00", in(3, in(3, "01"), "0000", in(3, "02"), "0001")), msg(11, "00", in(3, in(3, "01"), "0001", in(3, "02"), "0000")),
		msg(11, "00", in(3, slices.Repeat(put(in(3, "01"), "0000"), 6))), msg(11, "00", in(3, slices.Repeat(put(in(3, "01"), "0000"), 5000))),
		msg(11, "00", in(3, slices.Repeat(put(in(3), "0000"), 6000))), msg(11, "00", in(3, make([]byte, 32764))),
		msg(13), msg(13, "00 0000"), msg(13, "01 00 0008 000D 0004 0002 0403"), msg(13, "00 000A 000D 0006 0004 0403 0804"), msg(13, "00 0008 000D 0004 0002 0804"),
		msg(13, "00 0008 000D 0004 0002 0403 00"), msg(13, "00 0010 000D 0004 0002 0403 000D 0004 0002 0403"), msg(13, "00 0008 0032 0004 0002 0403"),
		msg(15), msg(15, "0403"), msg(15, "0403 0000"), msg(15, "0403", in(2, make([]byte, 101))), msg(15, "0804", in(2, "01")), msg(15, "0403", in(2, "01"), "00"), msg(15, "0403 0002 01"),
		msg(15, "0403 01 01"), msg(15, "0403", in(2, make([]byte, 256))), msg(15, "0403", in(2, make([]byte, 257))),
		msg(20), msg(20, make([]byte, 31)), msg(20, make([]byte, 33)), msg(20, make([]byte, 48)), msg(20, "20", sum(1)), msg(20, make([]byte, 64)),
	} {
		if e := isRead(t, b); e != api.ErrForm {
			t.Errorf("a message that isn't ours, %d: %.50x: error %d", i, b, e)
		}
	}
}

// Bytes as they come by chance, many of which begin as a message does.
func TestReadOfAnyBytes(t *testing.T) {
	rnd := rand.New(rand.NewSource(5))
	good := 0
	for range 40000 {
		b := bytesOf(messages()[rnd.Intn(len(messages()))])
		if rnd.Intn(4) == 0 {
			b = make([]byte, rnd.Intn(60))
			rnd.Read(b)
			if len(b) > 3 {
				copy(b, put(num(1, kinds()[rnd.Intn(8)]), num(3, max(0, len(b)-4-rnd.Intn(2)))))
			}
		}
		for range rnd.Intn(4) {
			b = anyFault(rnd, b)
		}
		if isRead(t, b) == api.OK {
			good++
		}
	}
	if good < 1000 {
		t.Errorf("just %d are messages", good)
	}
}

// anyFault is b with something changed; often its count is made right again.
func anyFault(r *rand.Rand, b []byte) []byte {
	if len(b) < 5 {
		return append(b, byte(r.Intn(256)))
	}
	i := r.Intn(len(b))
	switch r.Intn(5) {
	case 0:
		b[i] = byte(r.Intn(256))
	case 1:
		b = slices.Delete(b, i, min(len(b), i+1+r.Intn(3)))
	case 2:
		b = slices.Insert(b, i, sample.Filled(1+r.Intn(3), r.Intn(99))...)
	case 3:
		b[i]++
	default:
		b[i]--
	}
	if len(b) > 4 && r.Intn(3) > 0 {
		b = put(b[:1], in(3, b[4:]))
	}
	return b
}
