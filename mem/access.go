package mem

import (
	"errors"
	"strconv"

	"clevis/api"
)

// Why an access may not be.
var (
	errCount = errors.New("no such number of bytes")
	errStray = errors.New("a memory of another layout")
	errRange = errors.New("outside all regions")
	errPerm  = errors.New("not to be written")
)

// fault is an access that may not be, and why.
type fault struct {
	api.Span
	why error
}

func (f fault) Error() string {
	return strconv.Itoa(f.N) + " bytes at " + strconv.FormatUint(f.At, 10) + ": " + f.why.Error()
}

func (f fault) Unwrap() error { return f.why }

// number answers the number by which an error is told.
func number(err error) api.Errno {
	switch {
	case err == nil:
		return api.OK
	case errors.Is(err, errRange):
		return api.ErrRange
	case errors.Is(err, errPerm):
		return api.ErrPerm
	}
	return api.ErrArg
}

// Address answers the address of an offset in a region.
func Address(region int, off int) uint64 { return uint64(region)<<32 + uint64(off) }

// Split answers an address's region, and the offset in it.
func Split(a uint64) (int, int) { return int(a >> 32), int(uint32(a)) }

// Access tells whether n bytes at a may be read, or written.
func Access(l api.Layout, a uint64, n int, write bool) api.Errno {
	_, err := find(l, api.Span{At: a, N: n}, write)
	return number(err)
}

// spot is where bytes begin: in which of a memory's areas, and where in it.
type spot struct {
	area int
	from int
}

// find answers where a span lies, if it may be accessed.
func find(l api.Layout, s api.Span, write bool) (spot, error) {
	if !within(s.N, 1) {
		return spot{}, fault{s, errCount}
	}
	region, off := Split(s.At)
	a, ok := Area(l, region)
	if !ok || off > a.Size-s.N {
		return spot{}, fault{s, errRange}
	}
	if write && !a.Write {
		return spot{}, fault{s, errPerm}
	}
	return spot{region - api.Context, off}, nil
}
