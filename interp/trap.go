package interp

import (
	"strconv"

	"clevis/api"
)

// trap is what went wrong, and at which instruction.
type trap struct {
	kind api.TrapKind
	at   int
}

func (t trap) Error() string {
	return "instruction " + strconv.Itoa(t.at) + ": trap " + strconv.Itoa(int(t.kind))
}
