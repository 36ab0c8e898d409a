package piece

import "tollgate/api"

// Joiner puts pieces together.
type Joiner struct {
	flight []byte // as far as it is there: nothing ahead of the first piece alone, for one that more follow has a byte
	count  int    // of the whole flight
}

// New: of nothing yet.
func New() *Joiner { return &Joiner{} }

// Take: the next piece; the flight, when it is whole.
func (j *Joiner) Take(b []byte) ([]byte, bool, api.Errno) {
	if j == nil {
		return nil, false, api.ErrArg
	}
	p, e := partsOf(b)
	if e == api.OK {
		e = j.join(&p)
	}
	if e == api.OK && p.has(more) {
		return nil, false, api.OK
	}
	flight := j.flight
	*j = Joiner{}
	if e != api.OK {
		return nil, false, e
	}
	return flight, true, api.OK
}

// Waits: how many bytes are there so far.
func (j *Joiner) Waits() int {
	if j == nil {
		return 0
	}
	return len(j.flight)
}

// join puts what a piece holds behind what is there, if it may come now.
func (j *Joiner) join(p *parts) api.Errno {
	if !j.mayCome(p) {
		return api.ErrForm
	}
	count := j.count
	if j.isNew() {
		count = p.count
	}
	if count > api.MaxFlight {
		return api.ErrBig
	}
	all := len(j.flight) + len(p.held)
	if all > count || all < count && !p.has(more) || len(p.held) == 0 && p.has(more) {
		return api.ErrForm
	}
	j.flight, j.count = append(j.flight, p.held...), count
	return api.OK
}

func (j *Joiner) isNew() bool { return len(j.flight) == 0 }

// mayCome: has a piece the flags that one at this place has?
func (j *Joiner) mayCome(p *parts) bool {
	if p.flags&^(counted|more) != 0 {
		return false
	}
	if j.isNew() {
		return p.has(counted) || !p.has(more)
	}
	return !p.has(counted)
}
