package trust_test

import (
	"fmt"
	"testing"

	"tollgate/api"
	"tollgate/cert"
)

// fault is something that is wrong with a chain, or with its root: what must be answered of it, and how it is brought about.
type fault struct {
	what  string
	place int
	e     api.Errno
	do    func(chain []spec, root *spec)
}

// faultsOf are those of a chain of n, in the order in which they are asked.
func faultsOf(n int) []fault {
	list := []fault{isBroken(0)}
	for i := range n {
		list = append(list, ofTime(i)...)
		list = append(list, ofUse(i)...)
		if i < n-1 {
			list = append(list, isBroken(i+1))
			list = append(list, ofNext(i)...)
		}
	}
	return append(list, ofRoot(n-1)...)
}

func isBroken(i int) fault {
	return fault{"form", i, api.ErrForm, func(chain []spec, _ *spec) { chain[i].broken = true }}
}

// ofTime: it is 150.
func ofTime(i int) []fault {
	return []fault{
		{"too early", i, api.ErrTime, func(chain []spec, _ *spec) { chain[i].c.From = 151 }},
		{"too late", i, api.ErrTime, func(chain []spec, _ *spec) { chain[i].c.To = 149 }},
	}
}

func ofUse(i int) []fault {
	if i == 0 {
		return []fault{
			{"no Sign", 0, api.ErrUse, func(chain []spec, _ *spec) { chain[0].c.Uses &^= cert.Sign }},
			{"no use", 0, api.ErrUse, func(chain []spec, _ *spec) { chain[0].c.Uses &^= cert.Server }},
		}
	}
	list := []fault{{"no CA", i, api.ErrUse, func(chain []spec, _ *spec) { isNoCA(&chain[i]) }}}
	if i > 1 {
		list = append(list, fault{"a short path", i, api.ErrUse, func(chain []spec, _ *spec) { shorten(&chain[i]) }})
	}
	return list
}

func isNoCA(s *spec) { s.c.CA, s.c.Path, s.c.Uses = false, 0, cert.Sign|cert.Server|cert.Client }

func shorten(s *spec) {
	if s.c.CA {
		s.c.Path--
	}
}

func ofNext(i int) []fault {
	return []fault{
		{"another issuer", i, api.ErrTrust, func(chain []spec, _ *spec) { chain[i].c.Issuer = "another" }},
		{"another's subject", i, api.ErrTrust, func(chain []spec, _ *spec) { chain[i+1].c.Subject = "somebody" }},
		{"signed by a stranger", i, api.ErrSig, func(chain []spec, _ *spec) { chain[i].by = stranger }},
		{"a stranger's key", i, api.ErrSig, func(chain []spec, _ *spec) { chain[i+1].own = stranger + 1 }},
	}
}

// ofRoot: whatever is wrong with the only root, the last certificate leads to nobody.
func ofRoot(last int) []fault {
	add := func(what string, do func(chain []spec, root *spec)) fault {
		return fault{"the root: " + what, last, api.ErrTrust, do}
	}
	list := []fault{
		add("form", func(_ []spec, root *spec) { root.broken = true }),
		add("no CA", func(_ []spec, root *spec) { isNoCA(root) }),
		add("too early", func(_ []spec, root *spec) { root.c.From = 151 }),
		add("too late", func(_ []spec, root *spec) { root.c.To = 149 }),
		add("another issuer", func(chain []spec, _ *spec) { chain[last].c.Issuer = "another" }),
		add("another subject", func(_ []spec, root *spec) { root.c.Subject = "somebody" }),
		add("signed by a stranger", func(chain []spec, _ *spec) { chain[last].by = stranger }),
		add("a stranger's key", func(_ []spec, root *spec) { root.own = stranger + 1 }),
	}
	if last > 0 {
		list = append(list, add("a short path", func(_ []spec, root *spec) { shorten(root) }))
	}
	return list
}

func TestEachFaultAtEachPlace(t *testing.T) {
	for n := 1; n <= 5; n++ {
		for _, f := range faultsOf(n) {
			chain, root := right(n)
			f.do(chain, &root)
			isAnswered(t, chain, []spec{root}, 150, cert.Server, f.place, f.e, fmt.Sprintf("%d: %s at %d", n, f.what, f.place))
		}
	}
}

// Of two faults the one that is asked first is answered.
func TestFaultsInTurn(t *testing.T) {
	for n := 1; n <= 3; n++ {
		list := faultsOf(n)
		for i, f := range list {
			for _, g := range list[i+1:] {
				chain, root := right(n)
				f.do(chain, &root)
				g.do(chain, &root)
				what := fmt.Sprintf("%d: %s at %d, %s at %d", n, f.what, f.place, g.what, g.place)
				isAnswered(t, chain, []spec{root}, 150, cert.Server, f.place, f.e, what)
			}
		}
	}
}

// Likewise in the longest chain, of all the faults from each one on.
func TestAllFaultsInTurn(t *testing.T) {
	list := faultsOf(5)
	for i, f := range list {
		chain, root := right(5)
		for _, g := range list[i:] {
			g.do(chain, &root)
		}
		isAnswered(t, chain, []spec{root}, 150, cert.Server, f.place, f.e, fmt.Sprintf("all from %s at %d on", f.what, f.place))
	}
}

// That what is asked for is none, or the chain is too long, is told ahead of all faults.
func TestWrongArgumentsInTurn(t *testing.T) {
	for _, f := range faultsOf(3) {
		chain, root := right(3)
		f.do(chain, &root)
		isAnswered(t, chain, []spec{root}, 150, cert.Sign, 0, api.ErrArg, f.what)
	}
	for _, f := range faultsOf(6) {
		chain, root := right(6)
		f.do(chain, &root)
		isAnswered(t, chain, []spec{root}, 150, cert.Server, 0, api.ErrArg, f.what)
	}
}
