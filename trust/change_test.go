package trust_test

import (
	"bytes"
	"fmt"
	"math/rand"
	"slices"
	"testing"

	"tollgate/api"
	"tollgate/cert"
	"tollgate/sample"
	"tollgate/trust"
)

// changedSpec is what changed bytes of a certificate are: nobody signed what they say now, if they say anything.
func changedSpec(s spec, b, key []byte) spec {
	c, e := cert.Read(b)
	if e != api.OK {
		return spec{broken: true}
	}
	if !bytes.Equal(c.Key, key) {
		s.own = nobody
	}
	s.by = nobody
	c.Key = nil
	s.c = c
	return s
}

// Each byte of each certificate changed: none of these is believed, nor one that it signed.
func TestChangedBytes(t *testing.T) {
	specs, root := right(2)
	good, roots := bytesOf(t, specs...), bytesOf(t, root)
	for place, s := range specs {
		for i := range good[place] {
			b := bytes.Clone(good[place])
			b[i] ^= 1 << (i % 8)
			now := slices.Clone(specs)
			now[place] = changedSpec(s, b, keyOf(t, s.own))
			at, want := answer(now, []spec{root}, 150, cert.Client)
			if want == api.OK {
				t.Errorf("the test believes byte %d of %d, changed", i, place)
			}
			chain := slices.Clone(good)
			chain[place] = b
			asked(t, chain, roots, 150, cert.Client, at, want, fmt.Sprintf("byte %d of %d changed", i, place))
		}
	}
}

// A byte left out, or one added.
func TestBytesLeftOutOrAdded(t *testing.T) {
	specs, root := right(2)
	good, roots := bytesOf(t, specs...), bytesOf(t, root)
	for place, b := range good {
		for i := range b {
			for _, wrong := range [][]byte{slices.Delete(bytes.Clone(b), i, i+1), slices.Insert(bytes.Clone(b), i, 0), slices.Insert(bytes.Clone(b), i, b[i])} {
				chain := slices.Clone(good)
				chain[place] = wrong
				asked(t, chain, roots, 150, cert.Client, place, api.ErrForm, fmt.Sprintf("byte %d of %d left out, or added", i, place))
			}
		}
	}
}

// One that was changed is believed, if it was signed so.
func TestChangedAndSigned(t *testing.T) {
	for i, change := range []func(c *cert.Cert){
		func(c *cert.Cert) { c.Serial = 1<<62 - 1 }, func(c *cert.Cert) { c.Subject = "somebody" }, func(c *cert.Cert) { c.From = 0 },
		func(c *cert.Cert) { c.To = 1<<62 - 1 }, func(c *cert.Cert) { c.Uses = 13 }, func(c *cert.Cert) { c.CA, c.Uses, c.Path = true, 15, 5 },
	} {
		chain, root := right(2)
		change(&chain[0].c)
		isAnswered(t, chain, []spec{root}, 150, cert.Server, 0, api.OK, fmt.Sprint("change ", i))
		chain[0].by = stranger
		isAnswered(t, chain, []spec{root}, 150, cert.Server, 0, api.ErrSig, fmt.Sprint("change by a stranger ", i))
	}
}

// anyChange makes something of a certificate otherwise, often in such a way that nothing is wrong with it.
func anyChange(r *rand.Rand, s *spec) {
	switch r.Intn(12) {
	case 0:
		s.broken = true
	case 1:
		s.c.From = []int{150, 151, 151}[r.Intn(3)]
	case 2:
		s.c.To = []int{149, 149, 150}[r.Intn(3)]
	case 3:
		s.by = r.Intn(6) + 1
	case 4:
		s.own = r.Intn(6) + 1
	case 5:
		s.c.Issuer = nameOf(r.Intn(6))
	case 6:
		s.c.Subject = nameOf(r.Intn(6))
	case 7, 8:
		if s.c.CA {
			s.c.Path = r.Intn(6)
		}
	case 9:
		isNoCA(s)
	default:
		s.c.Uses = r.Intn(16)
		s.c.CA = s.c.Uses&cert.Issue != 0
		if !s.c.CA {
			s.c.Path = 0
		}
	}
}

// Chains and roots as they come by chance; each answer is reckoned by the document's words.
func TestAnyChains(t *testing.T) {
	r := rand.New(rand.NewSource(11))
	seen := map[string]int{}
	for i := range 1000 {
		chain, root := right(1 + max(r.Intn(5), r.Intn(5)))
		root.c.Path = 5
		for range r.Intn(3) {
			anyChange(r, &chain[len(chain)-1-r.Intn(len(chain))])
		}
		roots := slices.Repeat([]spec{root}, 1+r.Intn(3))
		for j := range roots {
			for range r.Intn(3) {
				anyChange(r, &roots[j])
			}
		}
		use := []int{4, 8}[r.Intn(2)]
		place, e := answer(chain, roots, 150, use)
		asked(t, bytesOf(t, chain...), bytesOf(t, roots...), 150, use, place, e, fmt.Sprint("by chance ", i))
		seen[fmt.Sprint(place, e)]++
	}
	for place := range 5 {
		for _, e := range []api.Errno{api.ErrForm, api.ErrTime, api.ErrUse, api.ErrTrust, api.ErrSig} {
			// The fifth one is the last: it leads to a root, or to nobody.
			if seen[fmt.Sprint(place, e)] == 0 && !(place == 4 && e == api.ErrSig) {
				t.Errorf("error %d at %d never comes", e, place)
			}
		}
	}
	if seen[fmt.Sprint(0, api.OK)] < 100 {
		t.Error("too few are believed")
	}
}

func roomy(list [][]byte) [][]byte {
	all := make([][]byte, len(list)+3)
	for i := range all {
		all[i] = sample.Roomy([]byte("spare"))
	}
	for i, b := range list {
		all[i] = sample.Roomy(b)
	}
	return all[:len(list)]
}

func isUnchanged(t *testing.T, what string, got, want [][]byte) {
	t.Helper()
	for i, b := range got[:cap(got)] {
		if i < len(want) {
			sample.Unchanged(t, fmt.Sprint(what, " ", i), b, want[i])
		} else {
			sample.Unchanged(t, what+": a list's spare room", b, []byte("spare"))
		}
	}
}

func TestCheckKeepsAndChangesNothing(t *testing.T) {
	for n := 1; n <= 6; n++ {
		for _, now := range []int{150, 99} {
			specs, root := right(n)
			wantChain, wantRoots := bytesOf(t, specs...), bytesOf(t, append(wrongRoots(2), root)...)
			chain, roots := roomy(wantChain), roomy(wantRoots)
			c, at, e := trust.Check(chain, roots, now, cert.Server)
			isUnchanged(t, "the chain", chain, wantChain)
			isUnchanged(t, "the roots", roots, wantRoots)
			clearAll(chain)
			clearAll(roots)
			if again, at2, e2 := trust.Check(wantChain, wantRoots, now, cert.Server); e2 != e || at2 != at || !same(c, again) {
				t.Errorf("a chain of %d: %v, place %d, error %d, then %v, %d, %d", n, c, at, e, again, at2, e2)
			}
		}
	}
}

func clearAll(list [][]byte) {
	for _, b := range list[:cap(list)] {
		clear(b[:cap(b)])
	}
	clear(list[:cap(list)])
}

func TestAnswersAreNewMemory(t *testing.T) {
	specs, root := right(2)
	wantChain, wantRoots := bytesOf(t, specs...), bytesOf(t, root)
	chain, roots := roomy(wantChain), roomy(wantRoots)
	c, _, _ := trust.Check(chain, roots, 150, cert.Server)
	again, _, _ := trust.Check(chain, roots, 150, cert.Server)
	clear(c.Key[:cap(c.Key)])
	isUnchanged(t, "the chain", chain, wantChain)
	isUnchanged(t, "the roots", roots, wantRoots)
	if first, _ := cert.Read(wantChain[0]); !same(again, first) {
		t.Error("two answers share memory")
	}
	asked(t, chain, roots, 150, cert.Server, 0, api.OK, "another time")
}

// Refused or believed, no call hangs on one ahead of it.
func TestCallsByThemselves(t *testing.T) {
	chain, root := right(3)
	other := slices.Clone(chain)
	other[1].by = stranger
	for range 3 {
		isAnswered(t, chain, []spec{root}, 150, cert.Server, 0, api.OK, "a right chain")
		isAnswered(t, other, []spec{root}, 150, cert.Server, 1, api.ErrSig, "a wrong chain")
		isAnswered(t, chain, nil, 150, cert.Server, 2, api.ErrTrust, "no roots")
		isAnswered(t, chain, []spec{root}, 201, cert.Client, 0, api.ErrTime, "too late")
		isAnswered(t, nil, []spec{root}, 150, cert.Client, 0, api.ErrArg, "no chain")
	}
}
