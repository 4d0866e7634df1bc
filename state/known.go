package state

import (
	"clevis/api"
	"clevis/bound"
	"clevis/mem"
)

const lastRegion = api.FirstMap + api.MaxMaps - 1

// Holds tells whether a number may be what is known.
func Holds(k api.Known, x uint64) bool {
	switch k.Kind {
	case api.Place:
		x -= mem.Address(k.Region, 0) // the offset is left, as if it were a number
		fallthrough
	case api.Number:
		return bound.In(k.Num, x)
	}
	return true
}

// may tells whether something may be known.
func may(k api.Known) bool {
	switch k.Kind {
	case api.Unset:
		return k == api.Known{}
	case api.Number:
		return k.Region == 0 && bound.Check(k.Num)
	case api.Place:
		return api.Context <= k.Region && k.Region <= lastRegion && bound.Check(k.Num)
	}
	return false
}

func mayNot(k api.Known) bool { return !may(k) }

// covers tells whether all that b says is within what a says.
func covers(a api.Known, b api.Known) bool {
	if a.Kind == api.Unset {
		return true
	}
	return a.Kind == b.Kind && a.Region == b.Region && bound.Within(a.Num, b.Num) // a Number's Region is 0
}
