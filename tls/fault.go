package tls

import (
	"errors"
	"strconv"

	"tollgate/api"
)

// fault is what went wrong.
type fault api.Errno

func (f fault) Error() string { return "error " + strconv.Itoa(int(f)) }

// theirAlert is the one fault that isn't answered, for the other end knows of it.
const theirAlert = fault(api.ErrAlert)

// ending is what ends a talk: the code of the alert that is said then, and the fault within.
type ending struct {
	code byte
	by   error
}

func (e ending) Error() string { return "alert " + strconv.Itoa(int(e.code)) + ": " + e.by.Error() }

func (e ending) Unwrap() error { return e.by }

func endedBy(err error) error { return ending{code: codeOf(told(err)), by: err} }

// check is a number as an error: none, if it is OK.
func check(e api.Errno) error {
	if e == api.OK {
		return nil
	}
	return fault(e)
}

// told is the number that an error stands for.
func told(err error) api.Errno {
	var f fault
	if !errors.As(err, &f) {
		return api.OK
	}
	return api.Errno(f)
}

// codeOf is RFC 8446's number of the alert by which the other end learns of a fault.
func codeOf(e api.Errno) byte {
	switch e {
	case api.ErrForm:
		fallthrough
	case api.ErrTail:
		fallthrough
	case api.ErrBig:
		return 50 // decode_error
	case api.ErrMac:
		fallthrough
	case api.ErrSig:
		return 51 // decrypt_error
	case api.ErrTime:
		return 45 // certificate_expired
	case api.ErrTrust:
		return 48 // unknown_ca
	case api.ErrUse:
		return 43 // unsupported_certificate
	case api.ErrState:
		return 10 // unexpected_message
	case api.ErrPoint:
		return 47 // illegal_parameter
	case api.ErrWeak:
		return 40 // handshake_failure
	}
	return 80 // internal_error
}
