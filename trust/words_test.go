package trust_test

import (
	"bytes"
	"fmt"
	"slices"
	"testing"

	"tollgate/api"
	"tollgate/cert"
	"tollgate/curve"
	"tollgate/trust"
)

// Whose secrets nobody in a right chain has.
const (
	stranger = 99
	nobody   = 0
)

// spec is a certificate to be made: what it says, and, as numbers of secrets, whose key it has and who signs it.
type spec struct {
	c       cert.Cert
	own, by int
	broken  bool // a byte is left out then
}

func nameOf(place int) string { return "name " + string(rune('a'+place)) }

func secretOf(number int) [32]byte { return [32]byte{30: 3, 31: byte(number)} }

// right is a chain of n certificates that leads to a root, from 100 to 200; each Path is just enough, if there is one.
func right(n int) ([]spec, spec) {
	var chain []spec
	for i := range n {
		chain = append(chain, specAt(i))
	}
	root := specAt(max(n, 1))
	root.by, root.c.Issuer, root.c.Path = root.own, root.c.Subject, min(max(n-1, 0), 5)
	return chain, root
}

func specAt(place int) spec {
	s := spec{own: place + 1, by: place + 2}
	s.c = cert.Cert{Serial: place + 1, Issuer: nameOf(place + 1), Subject: nameOf(place), From: 100, To: 200}
	if place == 0 {
		s.c.Uses = cert.Sign | cert.Server | cert.Client
	} else {
		s.c.CA, s.c.Path, s.c.Uses = true, min(place-1, 5), cert.Issue
	}
	return s
}

// made keeps what was made, for it takes its time.
var made = map[string][]byte{}

func (s spec) bytes(t *testing.T) []byte {
	t.Helper()
	what := fmt.Sprint(s.c, s.own, s.by)
	if made[what] == nil {
		c := s.c
		c.Key = keyOf(t, s.own)
		b, e := cert.Make(c, secretOf(s.by))
		if e != api.OK {
			t.Fatalf("%v isn't made: error %d", c, e)
		}
		made[what] = b
	}
	b := bytes.Clone(made[what])
	if s.broken {
		return b[:len(b)-1]
	}
	return b
}

func keyOf(t *testing.T, number int) []byte {
	t.Helper()
	key, e := curve.Public(secretOf(number))
	if e != api.OK {
		t.Fatalf("no public bytes: error %d", e)
	}
	return key
}

func bytesOf(t *testing.T, specs ...spec) [][]byte {
	t.Helper()
	var list [][]byte
	for _, s := range specs {
		list = append(list, s.bytes(t))
	}
	return list
}

// answer is what Check must answer of certificates that are known, by the document's words.
func answer(chain, roots []spec, now, use int) (int, api.Errno) {
	if len(chain) < 1 || len(chain) > 5 || use != 4 && use != 8 {
		return 0, api.ErrArg
	}
	for i, s := range chain {
		if s.broken {
			return i, api.ErrForm
		}
		if now < s.c.From || now > s.c.To {
			return i, api.ErrTime
		}
		if i == 0 && (s.c.Uses&1 == 0 || s.c.Uses&use == 0) || i > 0 && (!s.c.CA || s.c.Path < i-1) {
			return i, api.ErrUse
		}
		if i == len(chain)-1 {
			break
		}
		next := chain[i+1]
		if next.broken {
			return i + 1, api.ErrForm
		}
		if next.c.Subject != s.c.Issuer {
			return i, api.ErrTrust
		}
		if next.own != s.by {
			return i, api.ErrSig
		}
	}
	last := len(chain) - 1
	if !slices.ContainsFunc(roots, func(r spec) bool { return isRootOf(r, chain[last], last, now) }) {
		return last, api.ErrTrust
	}
	return 0, api.OK
}

func isRootOf(r, s spec, place, now int) bool {
	return !r.broken && r.c.CA && r.c.Path >= place && now >= r.c.From && now <= r.c.To && r.c.Subject == s.c.Issuer && r.own == s.by
}

// isAnswered holds Check against the document's words, and against what the test itself expects.
func isAnswered(t *testing.T, chain, roots []spec, now, use int, place int, e api.Errno, what string) {
	t.Helper()
	if p, want := answer(chain, roots, now, use); p != place || want != e {
		t.Errorf("%s: the test says place %d, error %d, the words say %d, %d", what, place, e, p, want)
	}
	asked(t, bytesOf(t, chain...), bytesOf(t, roots...), now, use, place, e, what)
}

// asked holds Check's answer of bytes against what is expected.
func asked(t *testing.T, chain, roots [][]byte, now, use int, place int, want api.Errno, what string) {
	t.Helper()
	c, at, e := trust.Check(chain, roots, now, use)
	if e != want || at != place {
		t.Errorf("%s: place %d, error %d, not %d, %d", what, at, e, place, want)
	}
	if e != api.OK && !same(c, cert.Cert{}) {
		t.Errorf("%s: %v beside error %d", what, c, e)
	}
	if e == api.OK {
		if first, _ := cert.Read(chain[0]); !same(c, first) {
			t.Errorf("%s: %v, not %v", what, c, first)
		}
	}
}

func same(a, b cert.Cert) bool {
	return a.Serial == b.Serial && a.Issuer == b.Issuer && a.Subject == b.Subject && a.From == b.From && a.To == b.To &&
		bytes.Equal(a.Key, b.Key) && a.CA == b.CA && a.Path == b.Path && a.Uses == b.Uses
}
