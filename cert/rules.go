package cert

import (
	"tollgate/api"
	"tollgate/curve"
)

const (
	mostNum  = 1<<62 - 1
	mostPath = 5
	allUses  = Sign | Issue | Server | Client
)

func inForm(c Cert) bool {
	if c.Serial < 1 || c.Serial > mostNum || !isName(c.Issuer) || !isName(c.Subject) {
		return false
	}
	if !isTime(c.From) || !isTime(c.To) || !isPoint(c.Key) {
		return false
	}
	if c.Path < 0 || c.Path > mostPath || c.Path > 0 && !c.CA {
		return false
	}
	if c.Uses < 0 || c.Uses > allUses {
		return false
	}
	return c.CA == (c.Uses&Issue != 0)
}

func isName(s string) bool {
	if len(s) < 1 || len(s) > api.MaxName {
		return false
	}
	for i := range len(s) {
		if s[i] < ' ' || s[i] > '~' {
			return false
		}
	}
	return true
}

func isTime(n int) bool { return n >= 0 && n <= mostNum }

func isPoint(b []byte) bool {
	_, e := curve.Read(b)
	return e == api.OK
}
