package trust_test

import (
	"bytes"
	"fmt"
	"math"
	"slices"
	"strings"
	"testing"

	"tollgate/api"
	"tollgate/cert"
	"tollgate/sample"
	"tollgate/trust"
)

// A certificate that a root signed, in its time, and a second about it.
func TestKnownAnswers(t *testing.T) {
	chain, root := right(1)
	for _, c := range []struct {
		now int
		e   api.Errno
	}{{99, api.ErrTime}, {100, api.OK}, {150, api.OK}, {200, api.OK}, {201, api.ErrTime}} {
		isAnswered(t, chain, []spec{root}, c.now, cert.Server, 0, c.e, fmt.Sprint("now ", c.now))
	}
	c, at, e := trust.Check(bytesOf(t, chain...), bytesOf(t, root), 150, cert.Client)
	want := cert.Cert{Serial: 1, Issuer: "name b", Subject: "name a", From: 100, To: 200, Key: keyOf(t, 1), Uses: 13}
	if e != api.OK || at != 0 || !same(c, want) {
		t.Errorf("%v, not %v: place %d, error %d", c, want, at, e)
	}
}

func TestChainsOfEachLength(t *testing.T) {
	for n := range 9 {
		chain, root := right(n)
		want := api.OK
		if n < 1 || n > 5 {
			want = api.ErrArg
		}
		for _, use := range []int{cert.Server, cert.Client} {
			isAnswered(t, chain, []spec{root}, 150, use, 0, want, fmt.Sprintf("a chain of %d", n))
			if n > 0 && n <= 5 {
				isAnswered(t, chain, nil, 150, use, n-1, api.ErrTrust, fmt.Sprintf("a chain of %d, no roots", n))
			}
		}
	}
	_, root := right(1)
	for _, none := range [][][]byte{nil, {}} {
		asked(t, none, bytesOf(t, root), 150, cert.Server, 0, api.ErrArg, "no chain")
		asked(t, none, none, 150, cert.Server, 0, api.ErrArg, "no chain and no roots")
	}
}

// Each that is left out, or comes twice, breaks a chain; each turned round with the next one, too.
func TestChainsInAnotherOrder(t *testing.T) {
	whole, root := right(4)
	root.c.Path = 5
	for i := range whole {
		for _, chain := range [][]spec{slices.Delete(slices.Clone(whole), i, i+1), slices.Insert(slices.Clone(whole), i, whole[i]), swapped(whole, i)} {
			place, e := answer(chain, []spec{root}, 150, cert.Server)
			if e == api.OK {
				t.Errorf("the test's chain is right, changed at %d", i)
			}
			isAnswered(t, chain, []spec{root}, 150, cert.Server, place, e, fmt.Sprintf("%d certificates, changed at %d", len(chain), i))
		}
	}
}

func swapped(chain []spec, i int) []spec {
	chain = slices.Clone(chain)
	j := (i + 1) % len(chain)
	chain[i], chain[j] = chain[j], chain[i]
	return chain
}

func TestUsesThatAreNone(t *testing.T) {
	chain, root := right(2)
	chain[0].c.CA, chain[0].c.Uses = true, 15
	for _, use := range []int{-1 << 63, -12, -8, -4, -1, 0, 1, 2, 3, 5, 6, 7, 9, 10, 11, 12, 13, 14, 15, 16, 32, 64 + 4, 256 + 8, 1<<32 + 4, 1<<63 - 1} {
		isAnswered(t, chain, []spec{root}, 150, use, 0, api.ErrArg, fmt.Sprint("use ", use))
		asked(t, nil, nil, 150, use, 0, api.ErrArg, fmt.Sprint("use ", use))
		asked(t, [][]byte{nil}, nil, 150, use, 0, api.ErrArg, fmt.Sprint("use ", use))
	}
}

// The first one must have both Sign and the use; the others' uses aren't asked, beyond their being CAs.
func TestUsesOfEach(t *testing.T) {
	for uses := range 16 {
		for _, use := range []int{4, 8} {
			chain, root := right(2)
			chain[0].c.Uses, chain[0].c.CA = uses, uses&cert.Issue != 0
			want := api.ErrUse
			if uses&1 != 0 && uses&use != 0 {
				want = api.OK
			}
			isAnswered(t, chain, []spec{root}, 150, use, 0, want, fmt.Sprintf("uses %d for %d", uses, use))
			if uses&cert.Issue == 0 {
				continue
			}
			chain, root = right(2)
			chain[1].c.Uses, root.c.Uses = uses, uses
			isAnswered(t, chain, []spec{root}, 150, use, 0, api.OK, fmt.Sprintf("uses %d of those above", uses))
		}
	}
}

// The time of each certificate, and of the root, by itself: at its ends, and a second about them.
func TestTimeOfEach(t *testing.T) {
	for n := 1; n <= 5; n++ {
		for i := range n + 1 {
			place, wrong := i, api.ErrTime
			if i == n {
				place, wrong = n-1, api.ErrTrust
			}
			for _, c := range []struct{ from, to, now int }{
				{150, 160, 149}, {150, 160, 150}, {150, 160, 155}, {150, 160, 160}, {150, 160, 161}, {150, 150, 149}, {150, 150, 150}, {150, 150, 151},
				{160, 150, 149}, {160, 150, 150}, {160, 150, 155}, {160, 150, 160}, {160, 150, 161},
			} {
				chain, root := right(n)
				all := append(chain, root)
				all[i].c.From, all[i].c.To = c.from, c.to
				what := fmt.Sprintf("the %d. of %d from %d to %d, at %d", i, n, c.from, c.to, c.now)
				if c.from <= c.now && c.now <= c.to {
					isAnswered(t, all[:n], all[n:], c.now, cert.Client, 0, api.OK, what)
				} else {
					isAnswered(t, all[:n], all[n:], c.now, cert.Client, place, wrong, what)
				}
			}
		}
	}
}

func TestTimesAtTheEnds(t *testing.T) {
	const end = 1<<62 - 1
	chain, root := right(1)
	for _, s := range []*spec{&chain[0], &root} {
		s.c.From, s.c.To = 0, end
	}
	for _, now := range []int{0, 1, 1 << 32, end - 1, end} {
		isAnswered(t, chain, []spec{root}, now, cert.Server, 0, api.OK, fmt.Sprint("now ", now))
	}
	for _, now := range []int{-1, -1 << 32, end + 1, math.MaxInt, math.MinInt} {
		isAnswered(t, chain, []spec{root}, now, cert.Server, 0, api.ErrTime, fmt.Sprint("now ", now))
	}
}

// A Path is enough, from as many certificates on as stand between it and the first one.
func TestPathOfEach(t *testing.T) {
	for n := 1; n <= 5; n++ {
		for path := range 6 {
			for i := 1; i < n; i++ {
				chain, root := right(n)
				chain[i].c.Path = path
				what := fmt.Sprintf("path %d at %d of %d", path, i, n)
				if path >= i-1 {
					isAnswered(t, chain, []spec{root}, 150, cert.Server, 0, api.OK, what)
				} else {
					isAnswered(t, chain, []spec{root}, 150, cert.Server, i, api.ErrUse, what)
				}
			}
			chain, root := right(n)
			root.c.Path = path
			what := fmt.Sprintf("path %d of the root of %d", path, n)
			if path >= n-1 {
				isAnswered(t, chain, []spec{root}, 150, cert.Server, 0, api.OK, what)
			} else {
				isAnswered(t, chain, []spec{root}, 150, cert.Server, n-1, api.ErrTrust, what)
			}
		}
	}
}

// The first one's own Path isn't asked, if it is a CA.
func TestPathOfTheFirst(t *testing.T) {
	for path := range 6 {
		chain, root := right(3)
		chain[0].c.CA, chain[0].c.Path, chain[0].c.Uses = true, path, 15
		isAnswered(t, chain, []spec{root}, 150, cert.Server, 0, api.OK, fmt.Sprintf("path %d of the first", path))
	}
}

// Names are the same byte by byte, or aren't.
func TestNamesThatAreNearly(t *testing.T) {
	long := strings.Repeat("x", 64)
	for _, c := range []struct{ issuer, subject string }{{"name b", "name B"}, {"name b", "name b "}, {"name b", " name b"}, {"name b", "name"}, {"name", "name b"},
		{long, long[:63]}, {long, long[:63] + "y"}, {long, "y" + long[1:]}, {"~", " "}} {
		chain, root := right(2)
		chain[0].c.Issuer, chain[1].c.Subject = c.issuer, c.subject
		isAnswered(t, chain, []spec{root}, 150, cert.Server, 0, api.ErrTrust, fmt.Sprint(c))
		chain[1].c.Subject = c.issuer
		isAnswered(t, chain, []spec{root}, 150, cert.Server, 0, api.OK, fmt.Sprint(c))
		chain, root = right(2)
		chain[1].c.Issuer, root.c.Subject = c.issuer, c.subject
		isAnswered(t, chain, []spec{root}, 150, cert.Server, 1, api.ErrTrust, fmt.Sprint(c))
		root.c.Subject = c.issuer
		isAnswered(t, chain, []spec{root}, 150, cert.Server, 0, api.OK, fmt.Sprint(c))
	}
}

// All may have one name: it is their keys that tell them apart.
func TestOneNameForAll(t *testing.T) {
	for n := 1; n <= 5; n++ {
		chain, root := right(n)
		all := append(chain, root)
		for i := range all {
			all[i].c.Issuer, all[i].c.Subject = "one", "one"
		}
		isAnswered(t, all[:n], all[n:], 150, cert.Server, 0, api.OK, "one name")
		all[n-1].by = 1
		isAnswered(t, all[:n], all[n:], 150, cert.Server, n-1, api.ErrTrust, "one name, signed by the first")
	}
}

// One that signed itself stands as often in a chain as its Path lets it.
func TestSelfSigned(t *testing.T) {
	for path := range 6 {
		_, s := right(1)
		s.c.Path, s.c.Uses = path, 15
		for n := 1; n <= 5; n++ {
			chain := slices.Repeat([]spec{s}, n)
			what := fmt.Sprintf("path %d, %d times", path, n)
			switch {
			case path >= n-1:
				isAnswered(t, chain, []spec{s}, 150, cert.Server, 0, api.OK, what)
			case path == n-2:
				isAnswered(t, chain, []spec{s}, 150, cert.Server, n-1, api.ErrTrust, what)
			default:
				isAnswered(t, chain, []spec{s}, 150, cert.Server, path+2, api.ErrUse, what)
			}
			isAnswered(t, chain[:1], nil, 150, cert.Server, 0, api.ErrTrust, "its own word isn't enough")
		}
	}
}

// A root is whom one trusts, by whomever it was signed: one of a chain, too. But that the last one is a root itself isn't enough.
func TestRootsThatOthersSigned(t *testing.T) {
	chain, root := right(3)
	root.by, root.c.Issuer = stranger, "somebody"
	isAnswered(t, chain, []spec{root}, 150, cert.Server, 0, api.OK, "a root that a stranger signed")
	isAnswered(t, chain[:2], []spec{root}, 150, cert.Server, 1, api.ErrTrust, "the first two of its chain")
	isAnswered(t, chain[:1], []spec{root}, 150, cert.Server, 0, api.ErrTrust, "the first one of its chain")
	isAnswered(t, chain[:1], chain[1:2], 150, cert.Server, 0, api.OK, "the second one is trusted")
	isAnswered(t, chain[:2], chain[1:2], 150, cert.Server, 1, api.ErrTrust, "the last one is trusted")
	chain[2].c.Path = 0
	isAnswered(t, chain[:2], chain[2:3], 150, cert.Server, 1, api.ErrTrust, "the third one is trusted, but its path is short")
	chain[2].c.Path = 1
	isAnswered(t, chain[:2], chain[2:3], 150, cert.Server, 0, api.OK, "the third one is trusted")
	isAnswered(t, chain[:1], chain[:1], 150, cert.Server, 0, api.ErrTrust, "the only one is trusted")
}

// wrongRoots are near to a right one; each has one fault.
func wrongRoots(n int) []spec {
	var list []spec
	for _, change := range []func(s *spec){
		func(s *spec) { s.broken = true }, isNoCA, shorten, func(s *spec) { s.c.From = 151 }, func(s *spec) { s.c.To = 149 },
		func(s *spec) { s.c.Subject = "somebody" }, func(s *spec) { s.own = stranger },
	} {
		_, root := right(n)
		change(&root)
		list = append(list, root)
	}
	return list
}

// Whatever stands beside a right root, and wherever, and as often as it may be: it is found. Without it nothing is.
func TestRootsInAnyOrder(t *testing.T) {
	chain, root := right(3)
	wrong := wrongRoots(3)
	isAnswered(t, chain, wrong, 150, cert.Server, 2, api.ErrTrust, "no right root")
	isAnswered(t, chain, slices.Repeat(wrong, 3), 150, cert.Server, 2, api.ErrTrust, "no right root")
	for i := range len(wrong) + 1 {
		roots := slices.Insert(slices.Clone(wrong), i, root)
		isAnswered(t, chain, roots, 150, cert.Server, 0, api.OK, fmt.Sprintf("the right root at %d", i))
		slices.Reverse(roots)
		isAnswered(t, chain, roots, 150, cert.Server, 0, api.OK, fmt.Sprintf("the right root at %d, turned round", i))
		isAnswered(t, chain, append(roots, root, root), 150, cert.Server, 0, api.OK, "the right root more than once")
	}
	for _, w := range wrong {
		isAnswered(t, chain, []spec{w}, 150, cert.Server, 2, api.ErrTrust, "a wrong root")
		isAnswered(t, chain, []spec{w, root}, 150, cert.Server, 0, api.OK, "a wrong root, and the right one")
		isAnswered(t, chain, []spec{root, w}, 150, cert.Server, 0, api.OK, "the right root, and a wrong one")
	}
	isAnswered(t, chain, append(slices.Repeat(wrong, 30), root), 150, cert.Server, 0, api.OK, "the right root behind many")
}

// Two halves of what a root must be, in two roots, make none.
func TestRootsTogetherAreNone(t *testing.T) {
	wrong := wrongRoots(3)
	chain, _ := right(3)
	for _, a := range wrong {
		for _, b := range wrong {
			isAnswered(t, chain, []spec{a, b}, 150, cert.Server, 2, api.ErrTrust, "two wrong roots")
		}
	}
}

// Two roots of one name: each leads to what its own key signed.
func TestTwoRootsOfOneName(t *testing.T) {
	old, oldRoot := right(1)
	young, youngRoot := right(1)
	young[0].by, youngRoot.own, youngRoot.by = 50, 50, 50
	for _, roots := range [][]spec{{oldRoot, youngRoot}, {youngRoot, oldRoot}} {
		isAnswered(t, old, roots, 150, cert.Server, 0, api.OK, "signed by the old key")
		isAnswered(t, young, roots, 150, cert.Server, 0, api.OK, "signed by the young key")
		old[0].by = 51
		isAnswered(t, old, roots, 150, cert.Server, 0, api.ErrTrust, "signed by another key")
		old[0].by = 2
	}
}

// The other ones of a chain aren't looked for among those of another order, nor among the roots.
func TestRootsDoNotFillGaps(t *testing.T) {
	chain, root := right(3)
	root.c.Path = 5
	isAnswered(t, []spec{chain[0], chain[2]}, []spec{root, chain[1]}, 150, cert.Server, 0, api.ErrTrust, "the second one is a root")
	isAnswered(t, chain[:1], []spec{root, chain[2]}, 150, cert.Server, 0, api.ErrTrust, "none that signed it")
}

// Bytes that are no certificate, at each place, and among the roots.
func TestBytesThatAreNone(t *testing.T) {
	specs, root := right(5)
	good, other := bytesOf(t, specs...), root.bytes(t)
	for place, b := range good {
		for i, wrong := range wrongBytes(b) {
			chain := slices.Clone(good)
			chain[place] = wrong
			what := fmt.Sprintf("wrong bytes %d at %d", i, place)
			asked(t, chain, [][]byte{other}, 150, cert.Server, place, api.ErrForm, what)
			asked(t, chain[:place+1], nil, 150, cert.Client, place, api.ErrForm, what)
		}
	}
	for i, wrong := range wrongBytes(other) {
		what := fmt.Sprintf("a root of wrong bytes %d", i)
		asked(t, good, [][]byte{wrong}, 150, cert.Server, 4, api.ErrTrust, what)
		asked(t, good, [][]byte{wrong, other}, 150, cert.Server, 0, api.OK, what)
		asked(t, good, [][]byte{other, wrong}, 150, cert.Server, 0, api.OK, what)
	}
}

func wrongBytes(b []byte) [][]byte {
	changed := func(i int, by byte) []byte {
		c := bytes.Clone(b)
		c[i] ^= by
		return c
	}
	return [][]byte{nil, {}, {0}, {0x30}, {0x30, 0}, b[:1], b[:len(b)/2], b[:len(b)-1], b[1:], append(bytes.Clone(b), 0), append([]byte{0}, b...),
		append(bytes.Clone(b), b...), changed(0, 1), changed(1, 1), changed(3, 1), changed(4, 0x10), make([]byte, len(b)), make([]byte, 2048), make([]byte, 2049),
		sample.Filled(len(b), 1), sample.Filled(3000, 2), sample.Filled(1<<20, 3)}
}
