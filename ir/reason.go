package ir

import (
	"errors"
	"strconv"

	"clevis/api"
)

var errCode = errors.New("code that may not be")

// reason is why code may not be.
type reason int

const (
	amount    reason = iota // too few or too many parts, or values
	ending                  // an End that is none, or leads to no part
	stray                   // a part that one cannot come to
	wrongPred               // Pred that are not those that lead there
	back                    // a way back to the first part
	nothing                 // a node that is none
	twice                   // a value that is none, or was made already
	choice                  // a phi that does not choose by the way one came
	early                   // a value that is used, but not made ahead
)

func (r reason) Error() string {
	switch r {
	case amount:
		return "there may not be so many parts, or values"
	case ending:
		return "it may not end so"
	case stray:
		return "one cannot come there"
	case wrongPred:
		return "its Pred are not those that lead there"
	case back:
		return "none may lead back there"
	case nothing:
		return "there is no such node"
	case twice:
		return "a value is none, or made twice"
	case choice:
		return "a phi has not as many From as there are Pred"
	}
	return "a value is not made ahead of its use"
}

// Unwrap says what all reasons are reasons for.
func (r reason) Unwrap() error { return errCode }

// fault is why code may not be, and in which part that shows.
type fault struct {
	part int
	why  reason
}

func (f fault) Error() string { return "part " + strconv.Itoa(f.part) + ": " + f.why.Error() }

func (f fault) Unwrap() error { return f.why }

// number answers the number by which an error is told.
func number(err error) api.Errno {
	if errors.Is(err, errCode) {
		return api.ErrIR
	}
	return api.OK
}
