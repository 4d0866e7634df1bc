package code

import (
	"errors"
	"strconv"

	"clevis/api"
)

// fault is why bytes or instructions are no program, and at which slot that shows.
type fault struct {
	code api.Errno
	at   int
}

func (f fault) Error() string {
	return "slot " + strconv.Itoa(f.at) + ": error " + strconv.Itoa(int(f.code))
}

// number answers the number by which an error is told; OK where there is none.
func number(err error) api.Errno {
	var f fault
	if errors.As(err, &f) {
		return f.code
	}
	return api.OK
}
