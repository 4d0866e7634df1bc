package verify

import (
	"strconv"

	"clevis/api"
)

// fault is why a program is not accepted, and at which instruction that shows.
type fault struct {
	code api.Errno
	at   int
}

func (f fault) Error() string {
	return "instruction " + strconv.Itoa(f.at) + ": error " + strconv.Itoa(int(f.code))
}
