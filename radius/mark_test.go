package radius_test

import (
	"bytes"
	"fmt"
	"slices"
	"testing"

	"tollgate/api"
	"tollgate/radius"
	"tollgate/sample"
)

var asked = [16]byte(sample.Filled(16, 77))

// secrets are of all sorts of counts: HMAC's blocks have 64 bytes.
func secrets() [][]byte {
	var all [][]byte
	for _, n := range []int{0, 1, 3, 16, 63, 64, 65, 100, 300} {
		all = append(all, sample.Filled(n, 50))
	}
	return all
}

func isSealed(t *testing.T, p radius.Packet, secret []byte) {
	t.Helper()
	b, e := radius.Seal(p, secret)
	if e != api.OK || !bytes.Equal(b, sealedOf(p, secret)) {
		t.Fatalf("%.100s: %.60x, not %.60x, error %d", named(p), b, sealedOf(p, secret), e)
	}
	if q, e := radius.Open(b, secret); e != api.OK || !same(q, p) {
		t.Errorf("%.100s is opened as %.100s, error %d", named(p), named(q), e)
	}
	opensNot(t, b, slices.Concat(secret, []byte{7}), api.ErrMac)
	if q, e := radius.Opened(b, asked, secret); e != api.ErrState || !same(q, radius.Packet{}) {
		t.Errorf("an Ask is an answer: %.100s, error %d", named(q), e)
	}
}

func isReplied(t *testing.T, p radius.Packet, asked [16]byte, secret []byte) {
	t.Helper()
	b, e := radius.Reply(p, asked, secret)
	if e != api.OK || !bytes.Equal(b, repliedOf(p, asked, secret)) {
		t.Fatalf("%.100s: %.60x, not %.60x, error %d", named(p), b, repliedOf(p, asked, secret), e)
	}
	want := p
	want.Auth = [16]byte(b[4:])
	if q, e := radius.Opened(b, asked, secret); e != api.OK || !same(q, want) {
		t.Errorf("%.100s is opened as %.100s, error %d", named(p), named(q), e)
	}
	openedNot(t, b, asked, slices.Concat(secret, []byte{7}), api.ErrMac)
	other := asked
	other[p.Id%16] ^= 1
	openedNot(t, b, other, secret, api.ErrMac)
	if q, e := radius.Open(b, secret); e != api.ErrState || !same(q, radius.Packet{}) {
		t.Errorf("an answer is an Ask: %.100s, error %d", named(q), e)
	}
}

func opensNot(t *testing.T, b, secret []byte, want api.Errno) {
	t.Helper()
	if q, e := radius.Open(b, secret); e != want || !same(q, radius.Packet{}) || q.Attrs != nil {
		t.Errorf("%.60x (%d bytes) is opened: %.100s, error %d, not %d", b, len(b), named(q), e, want)
	}
}

func openedNot(t *testing.T, b []byte, asked [16]byte, secret []byte, want api.Errno) {
	t.Helper()
	if q, e := radius.Opened(b, asked, secret); e != want || !same(q, radius.Packet{}) || q.Attrs != nil {
		t.Errorf("%.60x (%d bytes) is opened: %.100s, error %d, not %d", b, len(b), named(q), e, want)
	}
}

func TestSealAndReply(t *testing.T) {
	for _, secret := range secrets() {
		for _, p := range packets() {
			if p.Code == radius.Ask {
				isSealed(t, p, secret)
			} else {
				isReplied(t, p, asked, secret)
				isReplied(t, p, [16]byte{}, secret)
			}
		}
	}
}

// An answer's Auth as it is handed in counts for nothing.
func TestRepliesAuth(t *testing.T) {
	p := full(2, 100)
	one, _ := radius.Reply(p, asked, []byte("s"))
	p.Auth = asked
	two, _ := radius.Reply(p, asked, []byte("s"))
	p.Auth = [16]byte{}
	three, _ := radius.Reply(p, asked, []byte("s"))
	if !bytes.Equal(one, two) || !bytes.Equal(one, three) {
		t.Errorf("%x, %x, %x", one, two, three)
	}
}

// An Ask's Auth is marked as it is.
func TestSealsAuth(t *testing.T) {
	p := full(1, 100)
	one, _ := radius.Seal(p, []byte("s"))
	if !bytes.Equal(one[4:20], p.Auth[:]) {
		t.Errorf("%x", one)
	}
	one[4] ^= 1
	opensNot(t, one, []byte("s"), api.ErrMac)
}

// Which packets may be sealed, and which may be answers: what isn't fit is told ahead of what isn't in form.
func TestSealOfWrongPackets(t *testing.T) {
	fails := func(p radius.Packet, seal, reply api.Errno) {
		t.Helper()
		if b, e := radius.Seal(p, []byte("s")); e != seal || len(b) > 0 {
			t.Errorf("%.100s: sealed %.20x, error %d, not %d", named(p), b, e, seal)
		}
		if b, e := radius.Reply(p, asked, []byte("s")); e != reply || len(b) > 0 {
			t.Errorf("%.100s: replied %.20x, error %d, not %d", named(p), b, e, reply)
		}
	}
	for _, p := range wrongPackets() {
		seal, reply := api.ErrArg, api.ErrForm
		if p.Code == 1 {
			seal, reply = api.ErrForm, api.ErrArg
		}
		fails(p, seal, reply)
		fails(with(p, markKind), api.ErrArg, api.ErrArg)
	}
	for _, code := range []int{1, 2, 3, 11, 0, 77} {
		for _, n := range []int{0, 1, 16, 17, 253, 300} {
			for _, p := range []radius.Packet{{Code: code}, full(code, 100), {Code: code, Id: 256}} {
				fails(with(p, markKind, sample.Filled(n, 1)...), api.ErrArg, api.ErrArg)
				q := with(radius.Packet{Code: code, Id: p.Id}, markKind, sample.Filled(n, 1)...)
				q.Attrs = append(q.Attrs, attr(5, 5))
				fails(q, api.ErrArg, api.ErrArg)
			}
		}
	}
}

// There must be room for the Mark.
func TestSealAtTheMost(t *testing.T) {
	for n := most - 30; n <= most+2; n++ {
		ask, answer := full(1, n), full(2, n)
		b, e := radius.Seal(ask, []byte("s"))
		c, f := radius.Reply(answer, asked, []byte("s"))
		if n <= most-18 {
			if e != api.OK || f != api.OK || len(b) != n+18 || len(c) != n+18 {
				t.Errorf("%d bytes: errors %d, %d", n, e, f)
			}
			isSealed(t, ask, []byte("s"))
			isReplied(t, answer, asked, []byte("s"))
		} else if e != api.ErrForm || f != api.ErrForm || len(b)+len(c) > 0 {
			t.Errorf("%d bytes: errors %d, %d", n, e, f)
		}
	}
}

// A Mark counts wherever it stands.
func TestMarkAnywhere(t *testing.T) {
	others := []radius.Attr{attr(1, 5), attr(79, 253), attr(26, 0), attr(255, 16)}
	for at := 0; at <= len(others); at++ {
		list := slices.Insert(slices.Clone(others), at, radius.Attr{Kind: markKind, Value: make([]byte, 16)})
		for _, secret := range secrets() {
			ask := radius.Packet{Code: 1, Id: 9, Auth: asked, Attrs: list}
			want := ask
			want.Attrs = others
			if q, e := radius.Open(marked(bytesOf(ask), secret), secret); e != api.OK || !same(q, want) {
				t.Errorf("at %d: %s, error %d", at, named(q), e)
			}
			answer := radius.Packet{Code: 11, Id: 9, Auth: asked, Attrs: list}
			b := answered(marked(bytesOf(answer), secret), asked, secret)
			want = answer
			want.Auth, want.Attrs = [16]byte(b[4:]), others
			if q, e := radius.Opened(b, asked, secret); e != api.OK || !same(q, want) {
				t.Errorf("at %d: %s, error %d", at, named(q), e)
			}
		}
	}
}

// Packets whose Marks are not just one of 16 bytes, with an Auth that is right.
func TestNotJustOneMark(t *testing.T) {
	secret := []byte("secret")
	mark := radius.Attr{Kind: markKind, Value: make([]byte, 16)}
	lists := [][]radius.Attr{nil, {attr(1, 16)}, {attr(79, 16), attr(81, 16)}}
	for _, n := range []int{0, 1, 15, 17, 32, 253} {
		lists = append(lists, []radius.Attr{{Kind: markKind, Value: make([]byte, n)}}, []radius.Attr{attr(1, 1), attr(markKind, n)},
			[]radius.Attr{mark, attr(markKind, n)}, []radius.Attr{attr(markKind, n), mark}, []radius.Attr{mark, attr(1, 3), attr(markKind, n)})
	}
	lists = append(lists, []radius.Attr{mark, mark}, []radius.Attr{mark, attr(1, 1), mark}, []radius.Attr{mark, mark, mark})
	for _, list := range lists {
		ask, answer := bytesOf(radius.Packet{Code: 1, Attrs: list}), bytesOf(radius.Packet{Code: 2, Auth: asked, Attrs: list})
		if markAt(ask) >= 0 {
			ask, answer = marked(ask, secret), marked(answer, secret)
		}
		opensNot(t, ask, secret, api.ErrMac)
		openedNot(t, answered(answer, asked, secret), asked, secret, api.ErrMac)
		// Both right by the other.
		if n := markAt(ask); n >= 0 && len(list) > 1 && list[len(list)-1].Kind == markKind && len(list[len(list)-1].Value) == 16 {
			copy(ask[len(ask)-16:], ask[n:n+16])
			opensNot(t, ask, secret, api.ErrMac)
		}
	}
}

// A Mark that is the plain bytes' (with itself in its place), or of noughts.
func TestMarksOfOtherBytes(t *testing.T) {
	secret := []byte("secret")
	p := full(1, 100)
	right := sealedOf(p, secret)
	at := markAt(right)
	for _, mark := range [][]byte{make([]byte, 16), markOf(secret, right), markOf(secret, right[:at]), markOf(nil, right), markOf(secret, bytesOf(p))} {
		opensNot(t, slices.Concat(right[:at], mark), secret, api.ErrMac)
	}
	// An answer whose Mark was made with its own Auth.
	q := full(2, 100)
	q.Auth = asked
	for _, auth := range [][16]byte{{}, {9}, [16]byte(repliedOf(q, asked, secret)[4:])} {
		q.Auth = auth
		openedNot(t, answered(sealedOf(q, secret), asked, secret), asked, secret, api.ErrMac)
	}
	// One whose Auth was made ahead of the Mark.
	q.Auth = asked
	b := sealedOf(q, secret)
	early := bytes.Clone(b)
	clear(early[len(early)-16:])
	copy(b[4:20], answered(early, asked, secret)[4:20])
	openedNot(t, b, asked, secret, api.ErrMac)
	// One whose Auth is right, and whose Mark isn't; and the other way round.
	b = sealedOf(q, secret)
	b[len(b)-1] ^= 1
	openedNot(t, answered(b, asked, secret), asked, secret, api.ErrMac)
	b = repliedOf(q, asked, secret)
	b[4] ^= 1
	openedNot(t, b, asked, secret, api.ErrMac)
}

// Each bit of what is sealed counts.
func TestEachBitIsMarked(t *testing.T) {
	secret := []byte("secret")
	p := radius.Packet{Code: 1, Id: 5, Auth: asked, Attrs: []radius.Attr{attr(1, 3), attr(79, 20)}}
	q := p
	q.Code = 2
	sealed, replied := sealedOf(p, secret), repliedOf(q, asked, secret)
	for i := range 8 * len(sealed) {
		for _, right := range [][]byte{sealed, replied} {
			b := bytes.Clone(right)
			b[i/8] ^= 1 << (i % 8)
			want, wantOpened := api.ErrMac, api.ErrMac
			if r, ok := packetOf(b); !ok {
				want, wantOpened = api.ErrForm, api.ErrForm
			} else if r.Code == 1 {
				wantOpened = api.ErrState
			} else {
				want = api.ErrState
			}
			opensNot(t, b, secret, want)
			openedNot(t, b, asked, secret, wantOpened)
		}
	}
}

// What isn't in form is told first, then what isn't of the right code.
func TestOpenErrorsInTurn(t *testing.T) {
	for _, secret := range secrets() {
		for _, p := range packets() {
			plain := bytesOf(p)
			want, wantOpened := api.ErrMac, api.ErrState
			if p.Code != 1 {
				want, wantOpened = wantOpened, want
			}
			opensNot(t, plain, secret, want)
			openedNot(t, plain, asked, secret, wantOpened)
			for _, b := range [][]byte{nil, plain[:19], plain[:len(plain)-1], append(bytes.Clone(plain), 0)} {
				opensNot(t, b, secret, api.ErrForm)
				openedNot(t, b, asked, secret, api.ErrForm)
			}
		}
	}
	for _, code := range []byte{0, 4, 5, 12, 255} {
		b := sealedOf(full(1, 50), []byte("s"))
		b[0] = code
		opensNot(t, marked(b, []byte("s")), []byte("s"), api.ErrForm)
		openedNot(t, answered(marked(b, []byte("s")), asked, []byte("s")), asked, []byte("s"), api.ErrForm)
	}
}

// One may answer what another asked, and no other's ask.
func TestAnAnswerIsToOneAsk(t *testing.T) {
	secret := []byte("between us")
	for i := range 16 {
		other := asked
		other[i] ^= 0x80
		for _, code := range []int{2, 3, 11} {
			p := radius.Packet{Code: code, Id: i, Attrs: radius.Split(sample.Filled(300, i))}
			b, _ := radius.Reply(p, asked, secret)
			c, _ := radius.Reply(p, other, secret)
			if bytes.Equal(b, c) {
				t.Error(fmt.Sprint("Id ", i, ": the same answer to both"))
			}
			openedNot(t, b, other, secret, api.ErrMac)
			openedNot(t, c, asked, secret, api.ErrMac)
		}
	}
}
