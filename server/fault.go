package server

import (
	"errors"
	"strconv"

	"tollgate/api"
)

// What keeps a talk from an answer.
var (
	errFull     = errors.New("there are as many talks as there may be")
	errMiss     = errors.New("no talk has this State")
	errTurn     = errors.New("the talk wants another Id")
	errUnsealed = errors.New("what the talk says can't be sealed")
)

// fault is what is wrong with what came.
type fault api.Errno

func (f fault) Error() string { return "error " + strconv.Itoa(int(f)) }

// silence is that nothing is answered; why is within. (An error without it is answered, by a Reject.)
type silence struct {
	why error
}

func (s silence) Error() string { return "no answer: " + s.why.Error() }

func (s silence) Unwrap() error { return s.why }

// told is the number that an error stands for.
func told(err error) api.Errno {
	switch {
	case errors.Is(err, errFull):
		return api.ErrFull
	case errors.Is(err, errMiss):
		return api.ErrMiss
	case errors.Is(err, errTurn):
		return api.ErrState
	case errors.Is(err, errUnsealed):
		return api.ErrForm
	}
	f := fault(api.OK)
	errors.As(err, &f)
	return api.Errno(f)
}
