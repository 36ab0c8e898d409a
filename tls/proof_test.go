package tls_test

import (
	"bytes"
	"fmt"
	"testing"

	"tollgate/api"
	"tollgate/cert"
	"tollgate/hello"
	"tollgate/keys"
	"tollgate/record"
	"tollgate/sample"
	"tollgate/sign"
	"tollgate/tls"
)

// proving is an end that waits for a kind of message of the other's proof, in a talk in full or by a ticket.
func proving(t *testing.T, server, lazy, resumed bool, kind int) (*tls.Side, *far) {
	t.Helper()
	for _, p := range paths() {
		if p.server != server || p.lazy != lazy || p.resumed != resumed {
			continue
		}
		for n, x := range p.steps {
			if x.kind == kind {
				return place{p, n}.reached(t)
			}
		}
	}
	t.Fatal("no such path")
	return nil, nil
}

// chainCase is a chain that isn't believed.
type chainCase struct {
	what  string
	chain [][]byte
	e     api.Errno
}

// chainCases are those of an end with that use; it is 50.
func chainCases(t *testing.T, use, other int) []chainCase {
	t.Helper()
	leaf := func(c cert.Cert, by int) []byte {
		t.Helper()
		c.Subject = "leaf"
		if c.Issuer == "" {
			c.Issuer = "root"
		}
		return certOf(t, c, stranger-1, by)
	}
	good := leaf(cert.Cert{Uses: cert.Sign | use}, rootNumber)
	long := longChain(t, 3, "leaf", cert.Sign|use, stranger-1)
	changed := bytes.Clone(good)
	changed[len(changed)-1] ^= 1
	return []chainCase{
		{"no certificate", nil, api.ErrArg},
		{"a byte", [][]byte{{0}}, api.ErrForm},
		{"a certificate cut short", [][]byte{good[:len(good)-1]}, api.ErrForm},
		{"as many bytes as there may be", [][]byte{make([]byte, 2048)}, api.ErrForm},
		{"too late", [][]byte{leaf(cert.Cert{Uses: cert.Sign | use, To: 49}, rootNumber)}, api.ErrTime},
		{"too early", [][]byte{leaf(cert.Cert{Uses: cert.Sign | use, From: 51}, rootNumber)}, api.ErrTime},
		{"the other use", [][]byte{leaf(cert.Cert{Uses: cert.Sign | other}, rootNumber)}, api.ErrUse},
		{"no signing", [][]byte{leaf(cert.Cert{Uses: use}, rootNumber)}, api.ErrUse},
		{"no use", [][]byte{leaf(cert.Cert{}, rootNumber)}, api.ErrUse},
		{"the root itself", [][]byte{rootCert(t)}, api.ErrUse},
		{"another's word", [][]byte{leaf(cert.Cert{Uses: cert.Sign | use}, stranger)}, api.ErrTrust},
		{"an unknown one's word", [][]byte{leaf(cert.Cert{Uses: cert.Sign | use, Issuer: "nobody"}, rootNumber)}, api.ErrTrust},
		{"a signature changed", [][]byte{changed}, api.ErrTrust},
		{"a chain cut short", long[:2], api.ErrTrust},
		{"a chain with a gap", [][]byte{long[0], long[2]}, api.ErrTrust},
		{"a chain turned round", [][]byte{long[2], long[1], long[0]}, api.ErrUse},
		{"a chain with somebody else's within", [][]byte{long[0], certOf(t, cert.Cert{Issuer: "middle 1", Subject: "middle 0", CA: true, Path: 5, Uses: cert.Issue}, stranger, middleNumber+1), long[2]}, api.ErrSig},
		{"a byte behind a certificate", [][]byte{good, {0}}, api.ErrForm},
		{"one too late behind", [][]byte{long[0], certOf(t, cert.Cert{Issuer: "root", Subject: "middle 0", To: 49, CA: true, Path: 5, Uses: cert.Issue}, middleNumber, rootNumber)}, api.ErrTime},
		{"one that is no CA behind", [][]byte{long[0], certOf(t, cert.Cert{Issuer: "root", Subject: "middle 0", Uses: 13}, middleNumber, rootNumber)}, api.ErrUse},
	}
}

func TestChainsThatArentBelieved(t *testing.T) {
	t.Parallel()
	for _, x := range []struct {
		server     bool
		use, other int
	}{{true, cert.Client, cert.Server}, {false, cert.Server, cert.Client}} {
		for _, y := range chainCases(t, x.use, x.other) {
			s, f := proving(t, x.server, false, false, hello.Certs)
			what := fmt.Sprintf("a server %v, %s", x.server, y.what)
			isEnded(t, what, s, f, f.rec(record.Handshake, f.bytesOf(hello.Msg{Kind: hello.Certs, Certs: y.chain})), y.e)
		}
		// The other end's own certificate may be for both uses.
		s, f := proving(t, x.server, false, false, hello.Certs)
		f.c.Chain, f.c.Secret = [][]byte{certOf(t, cert.Cert{Issuer: "root", Subject: "both", Uses: 13}, stranger, rootNumber)}, secretOf(stranger)
		f.talks(s, f.say(f.certs()))
		f.talks(s, f.say(f.verify()))
	}
}

// An end that trusts nobody, or others, or lives at another time.
func TestEndsThatTrustOthers(t *testing.T) {
	t.Parallel()
	other := certOf(t, cert.Cert{Issuer: "root", Subject: "root", CA: true, Path: 5, Uses: cert.Issue}, stranger, stranger)
	for _, x := range []struct {
		what  string
		roots [][]byte
		now   int
		e     api.Errno
	}{
		{"no roots", nil, 50, api.ErrTrust}, {"another root", [][]byte{other}, 50, api.ErrTrust}, {"roots that aren't read", [][]byte{nil, {1}}, 50, api.ErrTrust},
		{"too late", [][]byte{rootCert(t)}, 101, api.ErrTime}, {"too early", [][]byte{rootCert(t)}, -1, api.ErrTime},
		{"among others", [][]byte{{1}, other, rootCert(t)}, 50, api.OK},
	} {
		change := func(c *tls.Config) { c.Roots, c.Now = x.roots, x.now }
		c, f := called(t, func(a, b *tls.Config) { change(a) })
		s, g := served(t, func(a, b *tls.Config) { change(b) })
		g.talks(s, g.say(g.client(true)))
		if x.e == api.OK {
			f.talks(c, f.begin())
			fed(t, s, g.rec(record.Handshake, g.last()))
			continue
		}
		isEnded(t, "a client: "+x.what, c, f, f.begin(), x.e)
		isEnded(t, "a server: "+x.what, s, g, g.rec(record.Handshake, g.last()), x.e)
	}
}

// signed is a Verify of a sum that is signed as a server's, or as a client's, by a secret.
func (f *far) signed(secret [32]byte, server bool, sum [32]byte) hello.Msg {
	f.t.Helper()
	sig, e := sign.Make(secret, keys.Signed(server, sum))
	f.isOK(e, "a signature")
	return hello.Msg{Kind: hello.Verify, Sig: cert.WriteSig(sig)}
}

func TestVerifiesThatAreWrong(t *testing.T) {
	t.Parallel()
	sigOf := func(b []byte) func(f *far) hello.Msg {
		return func(*far) hello.Msg { return hello.Msg{Kind: hello.Verify, Sig: b} }
	}
	for _, x := range []struct {
		what string
		m    func(f *far) hello.Msg
		e    api.Errno
	}{
		{"a byte", sigOf([]byte{0}), api.ErrForm},
		{"many bytes", sigOf(sample.Filled(100, 1)), api.ErrForm},
		{"a bare signature", sigOf(sample.Filled(64, 1)), api.ErrForm},
		{"a signature cut short", func(f *far) hello.Msg {
			m := f.verify()
			m.Sig = m.Sig[:len(m.Sig)-1]
			return m
		}, api.ErrForm},
		{"a signature and a byte", func(f *far) hello.Msg {
			m := f.verify()
			m.Sig = append(m.Sig, 0)
			return m
		}, api.ErrForm},
		{"a signature of noughts", sigOf(cert.WriteSig([64]byte{})), api.ErrSig},
		{"a signature that is too great", sigOf(cert.WriteSig([64]byte(bytes.Repeat([]byte{255}, 64)))), api.ErrSig},
		{"anybody's signature", sigOf(cert.WriteSig([64]byte(sample.Filled(64, 2)))), api.ErrSig},
		{"another secret", func(f *far) hello.Msg { return f.signed(secretOf(stranger), f.server, f.now()) }, api.ErrSig},
		{"the root's secret", func(f *far) hello.Msg { return f.signed(secretOf(rootNumber), f.server, f.now()) }, api.ErrSig},
		{"the other role", func(f *far) hello.Msg { return f.signed(f.c.Secret, !f.server, f.now()) }, api.ErrSig},
		{"no messages", func(f *far) hello.Msg { return f.signed(f.c.Secret, f.server, sum(nil)) }, api.ErrSig},
		{"a message less", func(f *far) hello.Msg {
			return f.signed(f.c.Secret, f.server, sum(f.all[:len(f.all)-len(f.bytesOf(f.certs()))]))
		}, api.ErrSig},
		{"the sum itself", func(f *far) hello.Msg {
			sig, _ := sign.Make(f.c.Secret, f.now())
			return hello.Msg{Kind: hello.Verify, Sig: cert.WriteSig(sig)}
		}, api.ErrSig},
		{"a byte more", func(f *far) hello.Msg { return f.signed(f.c.Secret, f.server, sum(f.all, []byte{0})) }, api.ErrSig},
	} {
		for _, server := range []bool{true, false} {
			for _, lazy := range []bool{true, false} {
				s, f := proving(t, server, lazy, false, hello.Verify)
				isEnded(t, fmt.Sprintf("a server %v, lazy %v: %s", server, lazy, x.what), s, f, f.rec(record.Handshake, f.bytesOf(x.m(f))), x.e)
			}
		}
	}
}

// Behind a Retry the first Client counts as its sum: a signature of its bytes isn't right.
func TestVerifyOfTheFirstClientsBytes(t *testing.T) {
	t.Parallel()
	for _, server := range []bool{true, false} {
		s, f := proving(t, server, true, false, hello.Verify)
		first := newFar(t, tls.Config{Draw: drawOf(1)}, false)
		b := first.put(first.client(false))
		wrong := f.signed(f.c.Secret, !server, sum(b, f.all[36:]))
		isEnded(t, "the first Client's bytes", s, f, f.rec(record.Handshake, f.bytesOf(wrong)), api.ErrSig)
	}
}

func TestFinishedThatIsWrong(t *testing.T) {
	t.Parallel()
	type change func(f *far, m *hello.Msg)
	all := map[string]change{
		"noughts":                 func(f *far, m *hello.Msg) { m.Mark = [32]byte{} },
		"the other end's secret":  func(f *far, m *hello.Msg) { m.Mark = keys.Finish(f.theirs, f.now()) },
		"no messages":             func(f *far, m *hello.Msg) { m.Mark = keys.Finish(f.ours, sum(nil)) },
		"a byte more":             func(f *far, m *hello.Msg) { m.Mark = keys.Finish(f.ours, sum(f.all, []byte{0})) },
		"a secret of the talk":    func(f *far, m *hello.Msg) { m.Mark = keys.Finish(f.h, f.now()) },
		"the sum of all messages": func(f *far, m *hello.Msg) { m.Mark = f.now() },
	}
	for i := range 32 {
		all[fmt.Sprint("byte ", i)] = func(f *far, m *hello.Msg) { m.Mark[i] ^= 1 << (i % 8) }
	}
	for what, do := range all {
		for _, server := range []bool{true, false} {
			for _, resumed := range []bool{true, false} {
				s, f := proving(t, server, len(what)%2 == 0, resumed, hello.Finished)
				m := f.finished()
				do(f, &m)
				isEnded(t, fmt.Sprintf("a server %v, resumed %v: %s", server, resumed, what), s, f, f.rec(record.Handshake, f.bytesOf(m)), api.ErrMac)
			}
		}
	}
}
