package legal_test

import (
	"math"
	"math/rand/v2"
	"strings"

	"clevis/api"
)

// The model says once more what the chapter says, by other means: from a table of shapes, a letter for each field that an op names.
//
//	d, D  Dst, from 0 to 10, to 9
//	s     Src, from 0 to 10
//	o     Off
//	i     Imm; h: from 1 to 5; 5: from 0 to 31; 6: from 0 to 63

const first = -1 << 31

var (
	plain      = []int{0x00, 0x10, 0x20, 0x30, 0x40, 0x50, 0x90, 0xa0, 0xb0}
	shifts     = []int{0x60, 0x70, 0xc0}
	conditions = []int{0x10, 0x20, 0x30, 0x40, 0x50, 0x60, 0x70, 0xa0, 0xb0, 0xc0, 0xd0}
)

// modelShapes are those of the ops of one slot, by op.
func modelShapes() map[int]string {
	m := map[int]string{
		0x05: "o", 0x85: "h", 0x95: "",
		0x84: "D", 0x87: "D",
		0x61: "Dso", 0x69: "Dso", 0x71: "Dso", 0x79: "Dso",
		0x62: "doi", 0x6a: "doi", 0x72: "doi", 0x7a: "doi",
		0x63: "dso", 0x6b: "dso", 0x73: "dso", 0x7b: "dso",
	}
	for _, op := range plain {
		m[op+0x04], m[op+0x07] = "Di", "Di"
		m[op+0x0c], m[op+0x0f] = "Ds", "Ds"
	}
	for _, op := range shifts {
		m[op+0x04], m[op+0x07] = "D5", "D6"
		m[op+0x0c], m[op+0x0f] = "Ds", "Ds"
	}
	for _, op := range conditions {
		m[op+0x05], m[op+0x06] = "doi", "doi"
		m[op+0x0d], m[op+0x0e] = "dos", "dos"
	}
	return m
}

// modelSpan answers from where to where a field may be: of the letters that speak of it the shape has at most one.
func modelSpan(shape string, letters string) (int, int) {
	at := strings.IndexAny(shape, letters)
	if at < 0 {
		return 0, 0
	}
	switch shape[at] {
	case 'd', 's':
		return 0, 10
	case 'D':
		return 0, 9
	case 'o':
		return -32768, 32767
	case 'h':
		return 1, 5
	case '5':
		return 0, 31
	case '6':
		return 0, 63
	}
	return -2147483648, 2147483647
}

func modelIns(shapes map[int]string, x api.Ins) bool {
	if x.Op == 0x18 {
		return modelWide(x)
	}
	shape, ok := shapes[x.Op]
	for _, f := range []struct {
		letters string
		n       int
	}{{"dD", x.Dst}, {"s", x.Src}, {"o", x.Off}, {"ih56", x.Imm}} {
		least, most := modelSpan(shape, f.letters)
		ok = ok && f.n >= least && f.n <= most
	}
	return ok && x.Wide == 0
}

func modelWide(x api.Ins) bool {
	low := int64(x.Wide % (1 << 32))
	if low >= 1<<31 {
		low -= 1 << 32
	}
	ok := x.Dst >= 0 && x.Dst < 10 && x.Off == 0 && int64(x.Imm) == low
	if x.Src == 1 {
		return ok && x.Wide <= 7
	}
	return ok && x.Src == 0
}

// modelHoles tells of each place whether it is a hole, counted from the front.
func modelHoles(l []api.Ins) []bool {
	holes := make([]bool, len(l))
	for i := 0; i < len(l); i++ {
		if l[i].Op == 0x18 && i+1 < len(l) {
			i++
			holes[i] = true
		}
	}
	return holes
}

func modelSucc(shapes map[int]string, l []api.Ins, i int) []int {
	if i < 0 || i >= len(l) || modelHoles(l)[i] {
		return nil
	}
	switch op := l[i].Op; {
	case op == 0x95:
		return nil
	case op == 0x05:
		return []int{i + 1 + l[i].Off}
	case op == 0x18:
		return []int{i + 2}
	case strings.HasPrefix(shapes[op], "do") && op%8 > 4:
		return []int{i + 1, i + 1 + l[i].Off}
	}
	return []int{i + 1}
}

func modelCheck(shapes map[int]string, l []api.Ins) (int, api.Errno) {
	if len(l) > 4096 {
		return 0, 31
	}
	if len(l) == 0 {
		return 0, 40
	}
	holes := modelHoles(l)
	for i, x := range l {
		if holes[i] {
			continue
		}
		ok := modelIns(shapes, x)
		if x.Op == 0x18 {
			ok = ok && i+1 < len(l) && l[i+1] == (api.Ins{})
		}
		for _, next := range modelSucc(shapes, l, i) {
			ok = ok && next >= 0 && next < len(l) && !holes[next]
		}
		if !ok {
			return i, 40
		}
	}
	return 0, 0
}

// sweep answers ops: the bytes, what is a byte and more, or a byte and less, and numbers far off.
func sweep() []int {
	l := []int{math.MinInt, math.MinInt + 7, math.MinInt + 0x95, -1 << 32, 1<<32 + 0x18, 1<<32 + 0xb7, 1<<32 + 0x95, 1 << 40, math.MaxInt - 8, math.MaxInt}
	for op := -0x200; op < 0x400; op++ {
		l = append(l, op)
	}
	return l
}

// chance is a row of numbers that is the same one each time.
func chance() *rand.Rand { return rand.New(rand.NewPCG(4, 40)) }

// some answers a number of a list.
func some[T any](r *rand.Rand, l []T) T { return l[r.IntN(len(l))] }

// someIns answers instructions that may be, one of one slot, or a wide one and its hole; a jump goes on near by.
func someIns(r *rand.Rand, shapes map[int]string, ops []int) []api.Ins {
	if r.IntN(6) == 0 {
		x := api.Ins{Op: 0x18, Dst: r.IntN(10), Wide: r.Uint64() >> r.IntN(64)}
		if r.IntN(2) == 0 {
			x.Src, x.Wide = 1, r.Uint64N(8)
		}
		x.Imm = int(int32(x.Wide))
		return []api.Ins{x, {}}
	}
	x := api.Ins{Op: some(r, ops)}
	for _, f := range []struct {
		letters string
		at      *int
	}{{"dD", &x.Dst}, {"s", &x.Src}, {"o", &x.Off}, {"ih56", &x.Imm}} {
		least, most := modelSpan(shapes[x.Op], f.letters)
		*f.at = least + r.IntN(most-least+1)
	}
	if x.Op%8 > 4 && x.Op%8 < 7 && x.Off != 0 {
		x.Off = r.IntN(9) - 4
	}
	return []api.Ins{x}
}

// someProgram answers a list that may be, most times; now and then a field has been spoilt, or an end cut off.
func someProgram(r *rand.Rand, shapes map[int]string, ops []int) []api.Ins {
	var l []api.Ins
	for range 1 + r.IntN(6) {
		l = append(l, someIns(r, shapes, ops)...)
	}
	l = append(l, api.Ins{Op: 0x95})
	x := &l[r.IntN(len(l))]
	n := some(r, []int{first - 1, first, -32769, -2, -1, 0, 1, 2, 5, 6, 7, 8, 9, 10, 11, 0x18, 31, 32, 63, 64, 0x95, 0xb7, 32768, 1 << 31})
	switch r.IntN(16) {
	case 0:
		x.Op = n
	case 1:
		x.Dst = n
	case 2:
		x.Src = n
	case 3:
		x.Off = n
	case 4:
		x.Imm = n
	case 5:
		x.Wide = uint64(n)
	case 6:
		l = l[:r.IntN(len(l))]
	}
	return l
}
