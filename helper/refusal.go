package helper

import (
	"errors"
	"strconv"

	"clevis/api"
)

// Why a helper refuses.
var (
	errNone  = errors.New("no such helper")
	errFew   = errors.New("too few arguments")
	errSize  = errors.New("a size that it does not take")
	errPlace = errors.New("bytes that it may not access")
	errStray = errors.New("a memory of another layout")
)

// refusal is a call that is not done, and why.
type refusal struct {
	n   int
	why error
}

func (r refusal) Error() string { return "helper " + strconv.Itoa(r.n) + ": " + r.why.Error() }

func (r refusal) Unwrap() error { return r.why }

// number answers the number by which an error is told.
func number(err error) api.Errno {
	switch {
	case err == nil:
		return api.OK
	case errors.Is(err, errStray):
		return api.ErrArg
	}
	return api.ErrHelper
}
