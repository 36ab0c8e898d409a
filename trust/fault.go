package trust

import (
	"errors"
	"strconv"

	"tollgate/api"
)

// reason is what is wrong.
type reason api.Errno

func (r reason) Error() string { return "error " + strconv.Itoa(int(r)) }

// fault is which certificate of a chain is wrong; what is wrong with it is within.
type fault struct {
	place int
	what  error
}

func (f fault) Error() string { return "certificate " + strconv.Itoa(f.place) + ": " + f.what.Error() }

func (f fault) Unwrap() error { return f.what }

// told is what an error says: which certificate is wrong, and what. One that is no certificate's has the place 0.
func told(err error) (int, api.Errno) {
	place := 0
	var which fault
	if errors.As(err, &which) {
		place = which.place
	}
	e := api.OK
	var what reason
	if errors.As(err, &what) {
		e = api.Errno(what)
	}
	return place, e
}
