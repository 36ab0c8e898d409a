package trust

import (
	"tollgate/api"
	"tollgate/cert"
)

// asked is what Check is asked.
type asked struct {
	chain, roots [][]byte
	now, use     int
}

// link is a certificate of a chain: where it stands, its bytes, and what they say.
type link struct {
	place int
	bytes []byte
	says  cert.Cert
}

func (l link) wrong(e api.Errno) error { return fault{place: l.place, what: reason(e)} }

// believed is the first certificate, if its chain leads to a root.
func believed(a asked) (cert.Cert, error) {
	if len(a.chain) == 0 || len(a.chain) > api.MaxChain || a.use != cert.Server && a.use != cert.Client {
		return cert.Cert{}, reason(api.ErrArg)
	}
	first, err := a.linkAt(0)
	if err != nil {
		return cert.Cert{}, err
	}
	if err := a.leadOn(first); err != nil {
		return cert.Cert{}, err
	}
	return first.says, nil
}

func (a asked) linkAt(place int) (link, error) {
	l := link{place: place, bytes: a.chain[place]}
	c, e := cert.Read(l.bytes)
	if e != api.OK {
		return link{}, l.wrong(api.ErrForm)
	}
	l.says = c
	return l, nil
}

// leadOn is what is wrong with a link, or with one behind it.
func (a asked) leadOn(l link) error {
	if !counts(l.says, a.now) {
		return l.wrong(api.ErrTime)
	}
	if !a.mayStandThere(l) {
		return l.wrong(api.ErrUse)
	}
	if l.place == len(a.chain)-1 {
		return a.endAt(l)
	}
	next, err := a.linkAt(l.place + 1)
	if err != nil {
		return err
	}
	if next.says.Subject != l.says.Issuer {
		return l.wrong(api.ErrTrust)
	}
	if !signed(next.says, l) {
		return l.wrong(api.ErrSig)
	}
	return a.leadOn(next)
}

// mayStandThere: the first one is used itself, the others vouch for those ahead of them.
func (a asked) mayStandThere(l link) bool {
	if l.place == 0 {
		both := cert.Sign | a.use
		return l.says.Uses&both == both
	}
	return l.says.CA && l.says.Path >= l.place-1
}

// endAt is what is wrong with the last link.
func (a asked) endAt(l link) error {
	for _, b := range a.roots {
		if a.isRootOf(b, l) {
			return nil
		}
	}
	return l.wrong(api.ErrTrust)
}

func (a asked) isRootOf(b []byte, l link) bool {
	root, e := cert.Read(b)
	return e == api.OK && root.CA && root.Path >= l.place && counts(root, a.now) && root.Subject == l.says.Issuer && signed(root, l)
}

// counts: is it a certificate's time?
func counts(c cert.Cert, now int) bool { return c.From <= now && now <= c.To }

// signed: was a link signed by the one whose certificate this is?
func signed(by cert.Cert, l link) bool { return cert.Signed(l.bytes, by.Key) == api.OK }
