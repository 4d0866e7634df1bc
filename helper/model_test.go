package helper_test

import (
	"bytes"
	"encoding/binary"
	"math/big"
	"reflect"

	"clevis/api"
)

// The model says once more what the chapter says, by other means: from a row of letters, one for each argument (s a number, r an address to be read, w one to be written, n a size).

const last = 5

func modelLetters(n int) (string, bool) {
	switch n {
	case 1:
		return "", true
	case 2:
		return "s", true
	case 3:
		return "rn", true
	case 4:
		return "wn", true
	case 5:
		return "sss", true
	}
	return "", false
}

func modelKinds(letters string) []api.ArgKind {
	var l []api.ArgKind
	for _, c := range letters {
		l = append(l, map[rune]api.ArgKind{'s': 1, 'r': 2, 'w': 3, 'n': 4}[c])
	}
	return l
}

// modelAreas are the regions from 1 on; none, if the layout may not be.
func modelAreas(l api.Layout) []api.Area {
	if l.Context.Size < 0 || l.Context.Size > 4096 || len(l.Maps) > 8 {
		return nil
	}
	for _, a := range l.Maps {
		if a.Size < 1 || a.Size > 4096 {
			return nil
		}
	}
	return append([]api.Area{l.Context, {Size: 512, Write: true}}, l.Maps...)
}

// modelAt answers where so many bytes lie, and whether they may be accessed.
func modelAt(l api.Layout, a uint64, n uint64, write bool) (int, int, bool) {
	areas := modelAreas(l)
	region, off := a/(1<<32), a%(1<<32)
	if region < 1 || region > uint64(len(areas)) {
		return 0, 0, false
	}
	area := areas[region-1]
	return int(region) - 1, int(off), off+n <= uint64(area.Size) && (area.Write || !write)
}

func modelIsOf(l api.Layout, m api.Memory) bool {
	areas := modelAreas(l)
	if areas == nil || len(m) != len(areas) {
		return false
	}
	for i, a := range areas {
		if len(m[i]) != a.Size {
			return false
		}
	}
	return true
}

// done is all that Do answers.
type done struct {
	x    uint64
	m    api.Memory
	told api.Told
	e    api.Errno
}

func modelDo(l api.Layout, m api.Memory, n int, args []uint64, answers []uint64) done {
	letters, ok := modelLetters(n)
	if !ok || len(args) < len(letters) {
		return done{e: api.ErrHelper}
	}
	refused := false
	for i, c := range letters {
		if c == 'r' || c == 'w' {
			_, _, may := modelAt(l, args[i], min(args[i+1], 5000), c == 'w')
			refused = refused || !may || args[i+1] < 1 || args[i+1] > 64
		}
	}
	if refused {
		return done{e: api.ErrHelper}
	}
	if !modelIsOf(l, m) {
		return done{e: api.ErrArg}
	}
	d := done{m: clone(m), told: api.Told{Helper: n}}
	if len(answers) > 0 {
		d.x = answers[0]
	}
	if n == 5 {
		d.x = modelMix(args, d.x)
	}
	for i, c := range letters {
		if c == 's' || c == 'n' {
			d.told.Args = append(d.told.Args, args[i])
			continue
		}
		d.told.Args = append(d.told.Args, 0)
		area, off, _ := modelAt(l, args[i], args[i+1], false)
		size := int(args[i+1])
		if c == 'r' {
			d.told.Data = bytes.Clone(m[area][off : off+size])
			continue
		}
		var b []byte
		for len(b) < size {
			b = binary.LittleEndian.AppendUint64(b, d.x)
		}
		copy(d.m[area][off:off+size], b)
	}
	return d
}

// modelMix reckons with numbers that have no end.
func modelMix(args []uint64, given uint64) uint64 {
	sum := new(big.Int).SetUint64(given)
	for i, factor := range []int64{1, 3, 5} {
		x := new(big.Int).SetUint64(args[i])
		sum.Add(sum, x.Mul(x, big.NewInt(factor)))
	}
	return sum.Mod(sum, new(big.Int).Lsh(big.NewInt(1), 64)).Uint64()
}

// modelSpan answers the bytes at the argument of a letter.
func modelSpan(letters string, letter rune, args []uint64) api.Span {
	for i, c := range letters {
		if c == letter {
			n := 65
			for size := range 65 {
				if args[i+1] == uint64(size) {
					n = size
				}
			}
			return api.Span{At: args[i], N: n}
		}
	}
	return api.Span{}
}

func clone(m api.Memory) api.Memory {
	var c api.Memory
	for _, b := range m {
		c = append(c, bytes.Clone(b))
	}
	return c
}

func sameMemory(a, b api.Memory) bool {
	if len(a) != len(b) {
		return false
	}
	for i := range a {
		if !bytes.Equal(a[i], b[i]) {
			return false
		}
	}
	return true
}

func sameList[T any](a, b []T) bool {
	return len(a) == len(b) && (len(a) == 0 || reflect.DeepEqual(a, b))
}

func sameDone(a, b done) bool {
	return a.x == b.x && a.e == b.e && sameMemory(a.m, b.m) &&
		a.told.Helper == b.told.Helper && sameList(a.told.Args, b.told.Args) && sameList(a.told.Data, b.told.Data)
}
