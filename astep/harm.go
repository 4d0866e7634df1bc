package astep

import (
	"errors"
	"strconv"

	"clevis/api"
)

var (
	errArg  = errors.New("nothing that can be done")
	errHarm = errors.New("it may do harm")
)

// reason is why an instruction may do harm.
type reason int

const (
	unset   reason = iota // a register that may not be set
	astray                // an access that may be outside its region, or of no region
	fixed                 // a write where none may be
	unready               // stack bytes that may not be set
	unfit                 // an argument that the helper may not take
	noMap                 // the address of a map that there is not
)

func (r reason) Error() string {
	switch r {
	case unset:
		return "a register may not be set"
	case astray:
		return "an access may go astray"
	case fixed:
		return "nothing may be written there"
	case unready:
		return "stack bytes may not be set"
	case unfit:
		return "the helper may not take that"
	}
	return "there is no such map"
}

// Unwrap says what all reasons are reasons for.
func (r reason) Unwrap() error { return errHarm }

// harm is an instruction that may do harm, and why.
type harm struct {
	at  int
	why reason
}

func (h harm) Error() string { return "instruction " + strconv.Itoa(h.at) + ": " + h.why.Error() }

func (h harm) Unwrap() error { return h.why }

func (t step) harm(why reason) error { return harm{t.at, why} }

// code answers the number by which an error is told.
func code(err error) api.Errno {
	switch {
	case err == nil:
		return api.OK
	case errors.Is(err, errHarm):
		return api.ErrUnsafe
	}
	return api.ErrArg
}
