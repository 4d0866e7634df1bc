package helper_test

import (
	"bytes"
	"math/rand/v2"
	"testing"

	"clevis/api"
	"clevis/helper"
	"clevis/mem"
)

// sample answers a layout with regions that may be written and such that may not, and a memory of it in which no two bytes near one another are alike.
func sample() (api.Layout, api.Memory) {
	l := api.Layout{
		Context: api.Area{Size: 24},
		Maps:    []api.Area{{Size: 16, Write: true}, {Size: 100}, {Size: 80, Write: true}},
	}
	return l, filled(24, 512, 16, 100, 80)
}

func filled(sizes ...int) api.Memory {
	var m api.Memory
	for i, n := range sizes {
		b := make([]byte, n)
		for j := range b {
			b[j] = byte(64*i + 3*j + 1)
		}
		m = append(m, b)
	}
	return m
}

func do(l api.Layout, m api.Memory, n int, args []uint64, answers []uint64) done {
	x, after, told, e := helper.Do(l, m, n, args, answers)
	return done{x, after, told, e}
}

func TestDoExamples(t *testing.T) {
	l, m := sample()
	for _, c := range []struct {
		n       int
		args    []uint64
		answers []uint64
		x       uint64
		told    api.Told
	}{
		{1, nil, nil, 0, api.Told{Helper: 1}},
		{1, nil, []uint64{}, 0, api.Told{Helper: 1}},
		{1, nil, []uint64{77, 78}, 77, api.Told{Helper: 1}},
		{1, []uint64{3, 4}, []uint64{1<<64 - 1}, 1<<64 - 1, api.Told{Helper: 1}},
		{2, []uint64{9}, nil, 0, api.Told{Helper: 2, Args: []uint64{9}}},
		{2, []uint64{1 << 63, 5, 6}, []uint64{4}, 4, api.Told{Helper: 2, Args: []uint64{1 << 63}}},
		{3, []uint64{mem.Address(1, 0), 3}, nil, 0, api.Told{Helper: 3, Args: []uint64{0, 3}, Data: []byte{1, 4, 7}}},
		{3, []uint64{mem.Address(3, 14), 2, 99}, []uint64{8, 9}, 8, api.Told{Helper: 3, Args: []uint64{0, 2}, Data: []byte{171, 174}}},
		{4, []uint64{mem.Address(2, 1), 2}, []uint64{0x0201}, 0x0201, api.Told{Helper: 4, Args: []uint64{0, 2}}},
		{4, []uint64{mem.Address(2, 1), 2, 99, 98}, nil, 0, api.Told{Helper: 4, Args: []uint64{0, 2}}},
		{5, []uint64{1, 2, 3}, []uint64{4}, 26, api.Told{Helper: 5, Args: []uint64{1, 2, 3}}},
		{5, []uint64{1, 2, 3, 100}, []uint64{4, 100}, 26, api.Told{Helper: 5, Args: []uint64{1, 2, 3}}},
		{5, []uint64{1, 2, 3}, nil, 22, api.Told{Helper: 5, Args: []uint64{1, 2, 3}}},
		{5, []uint64{1<<64 - 1, 1 << 63, 1 << 63}, []uint64{3}, 2, api.Told{Helper: 5, Args: []uint64{1<<64 - 1, 1 << 63, 1 << 63}}},
	} {
		x, _, told, e := helper.Do(l, m, c.n, c.args, c.answers)
		if x != c.x || e != api.OK {
			t.Errorf("Do(%d, %v, %v) = %d, %d; want %d", c.n, c.args, c.answers, x, e, c.x)
		}
		if !sameDone(done{told: told}, done{told: c.told}) {
			t.Errorf("Do(%d, %v, %v) tells %+v; want %+v", c.n, c.args, c.answers, told, c.told)
		}
	}
}

func TestRecvWritesItsAnswerOverAndOver(t *testing.T) {
	l, m := sample()
	const x = 0x8877665544332211
	pattern := []byte{0x11, 0x22, 0x33, 0x44, 0x55, 0x66, 0x77, 0x88}
	for size := 1; size <= 64; size++ {
		want := clone(m)
		copy(want[4][5:], bytes.Repeat(pattern, 8)[:size])
		got := do(l, m, 4, []uint64{mem.Address(5, 5), uint64(size)}, []uint64{x, 1})
		if got.e != api.OK || got.x != x || !sameMemory(got.m, want) {
			t.Errorf("recv of %d bytes: %d, %#x, %v; want %v", size, got.e, got.x, got.m, want)
		}
	}
}

func TestSendTellsTheBytes(t *testing.T) {
	l, m := sample()
	for size := 1; size <= 64; size++ {
		got := do(l, m, 3, []uint64{mem.Address(4, 36), uint64(size)}, nil)
		if got.e != api.OK || !bytes.Equal(got.told.Data, m[3][36:36+size]) {
			t.Errorf("send of %d bytes: %d, %v; want %v", size, got.e, got.told.Data, m[3][36:36+size])
		}
	}
}

func TestDoRefuses(t *testing.T) {
	l, m := sample()
	stray := filled(24, 512, 16, 100)
	wrong := api.Layout{Context: api.Area{Size: 4097}}
	at := mem.Address
	for _, c := range []struct {
		l    api.Layout
		m    api.Memory
		n    int
		args []uint64
		want api.Errno
	}{
		{l, m, 0, []uint64{1, 2, 3}, api.ErrHelper},
		{l, m, 6, []uint64{1, 2, 3}, api.ErrHelper},
		{l, m, -1, nil, api.ErrHelper},
		{l, m, 2, nil, api.ErrHelper},
		{l, m, 3, []uint64{at(1, 0)}, api.ErrHelper},
		{l, m, 4, []uint64{at(2, 0)}, api.ErrHelper},
		{l, m, 5, []uint64{1, 2}, api.ErrHelper},
		{l, m, 3, []uint64{at(2, 0), 0}, api.ErrHelper},
		{l, m, 3, []uint64{at(2, 0), 64}, api.OK},
		{l, m, 3, []uint64{at(2, 0), 65}, api.ErrHelper},
		{l, m, 3, []uint64{at(2, 0), 1 << 32}, api.ErrHelper},
		{l, m, 3, []uint64{at(2, 0), 1<<32 + 1}, api.ErrHelper},
		{l, m, 3, []uint64{at(2, 0), 1<<64 - 1}, api.ErrHelper},
		{l, m, 4, []uint64{at(2, 0), 0}, api.ErrHelper},
		{l, m, 4, []uint64{at(2, 448), 64}, api.OK},
		{l, m, 4, []uint64{at(2, 449), 64}, api.ErrHelper},
		{l, m, 4, []uint64{at(2, 0), 65}, api.ErrHelper},
		{l, m, 4, []uint64{at(2, 0), 1<<63 + 1}, api.ErrHelper},
		{l, m, 3, []uint64{at(3, 0), 16}, api.OK},
		{l, m, 3, []uint64{at(3, 0), 17}, api.ErrHelper},
		{l, m, 3, []uint64{at(3, 16), 1}, api.ErrHelper},
		{l, m, 3, []uint64{at(3, -1), 1}, api.ErrHelper},
		{l, m, 3, []uint64{at(0, 0), 1}, api.ErrHelper},
		{l, m, 3, []uint64{at(6, 0), 1}, api.ErrHelper},
		{l, m, 3, []uint64{at(1<<31, 0), 1}, api.ErrHelper},
		{l, m, 3, []uint64{1<<64 - 1, 1}, api.ErrHelper},
		{l, m, 3, []uint64{at(1, 0), 8}, api.OK},         // it may be read alone
		{l, m, 4, []uint64{at(1, 0), 8}, api.ErrHelper},  // the same
		{l, m, 3, []uint64{at(4, 0), 64}, api.OK},        // likewise
		{l, m, 4, []uint64{at(4, 0), 64}, api.ErrHelper}, // the same
		{l, m, 4, []uint64{at(3, 8), 8}, api.OK},
		{l, m, 4, []uint64{at(3, 8), 9}, api.ErrHelper},
		{l, stray, 1, nil, api.ErrArg},
		{l, nil, 1, nil, api.ErrArg},
		{l, nil, 2, []uint64{1}, api.ErrArg},
		{l, nil, 3, []uint64{at(1, 0), 1}, api.ErrArg},
		{l, stray, 4, []uint64{at(2, 0), 1}, api.ErrArg},
		{l, filled(24, 512, 16, 100, 81), 5, []uint64{1, 2, 3}, api.ErrArg},
		{l, filled(24, 512, 16, 100, 80, 8), 5, []uint64{1, 2, 3}, api.ErrArg},
		{l, stray, 0, nil, api.ErrHelper}, // both are wrong: the helper is named first
		{l, stray, 2, nil, api.ErrHelper},
		{l, stray, 3, []uint64{at(1, 0), 0}, api.ErrHelper},
		{l, stray, 4, []uint64{at(1, 0), 1}, api.ErrHelper},
		{wrong, filled(4097, 512), 1, nil, api.ErrArg},
		{wrong, filled(4097, 512), 3, []uint64{at(2, 0), 1}, api.ErrHelper}, // no region is one of it
		{api.Layout{}, filled(0, 512), 1, nil, api.OK},
		{api.Layout{}, nil, 1, nil, api.ErrArg},
	} {
		got := do(c.l, c.m, c.n, c.args, []uint64{9})
		if got.e != c.want {
			t.Errorf("Do(%d, %v) of %d areas: %d; want %d", c.n, c.args, len(c.m), got.e, c.want)
		}
		if got.e != api.OK && !sameDone(got, done{e: c.want}) {
			t.Errorf("Do(%d, %v) is refused, and answers %+v", c.n, c.args, got)
		}
	}
}

// places are addresses at the edges of sample's regions and of others.
func places() []uint64 {
	l := []uint64{0, 1, 1<<32 - 1, 1 << 63, 1<<64 - 1}
	for region := range 8 {
		for _, off := range []int{-1, 0, 1, 8, 15, 16, 17, 23, 24, 36, 79, 80, 99, 100, 448, 449, 504, 511, 512, 1 << 31} {
			l = append(l, mem.Address(region, off))
		}
	}
	return l
}

func TestDoAgainstTheModel(t *testing.T) {
	l, m := sample()
	before := clone(m)
	answers := []uint64{0xf8e7d6c5b4a39281, 5}
	for _, n := range numbers {
		for _, at := range places() {
			for _, size := range sizes {
				args := []uint64{at, size, at ^ size}
				got, want := do(l, m, n, args, answers), modelDo(l, m, n, args, answers)
				if !sameDone(got, want) {
					t.Fatalf("Do(%d, %#x) = %+v; want %+v", n, args, got, want)
				}
			}
		}
	}
	if !sameMemory(m, before) {
		t.Error("Do changed the memory that was handed in")
	}
}

func TestDoByChanceAgainstTheModel(t *testing.T) {
	r := rand.New(rand.NewPCG(5, 5))
	near := places()
	for range 20000 {
		l, m := sample()
		if r.IntN(8) == 0 {
			m = m[:r.IntN(len(m)+1)]
		}
		if r.IntN(8) == 0 {
			l.Maps[r.IntN(len(l.Maps))].Size = []int{-1, 0, 16, 100, 4097}[r.IntN(5)]
		}
		args := []uint64{near[r.IntN(len(near))], uint64(r.IntN(70)), r.Uint64(), 4, 5}[:r.IntN(6)]
		answers := []uint64{r.Uint64(), r.Uint64()}[:r.IntN(3)]
		n := r.IntN(last + 2)
		got, want := do(l, m, n, args, answers), modelDo(l, m, n, args, answers)
		if !sameDone(got, want) {
			t.Fatalf("Do(%v, %d, %#x, %#x) = %+v; want %+v", l, n, args, answers, got, want)
		}
	}
}

// right are calls that are done, of each helper.
func right() map[int][]uint64 {
	return map[int][]uint64{
		1: {},
		2: {6},
		3: {mem.Address(4, 10), 40},
		4: {mem.Address(5, 10), 40},
		5: {6, 7, 8},
	}
}

func TestDoLeavesWhatItIsHanded(t *testing.T) {
	for n, args := range right() {
		l, m := sample()
		before, answers, room := clone(m), []uint64{3, 4}, append(args, 71, 72)
		kept := append([]uint64(nil), room...)
		if got := do(l, m, n, room[:len(args)], answers); got.e != api.OK {
			t.Fatal(n, got.e)
		}
		same, _ := sample()
		if !sameMemory(m, before) || !sameList(answers, []uint64{3, 4}) || !sameList(room, kept) || !sameList(l.Maps, same.Maps) {
			t.Errorf("Do(%d) changed what it was handed", n)
		}
	}
}

func TestDoAnswersNewMemory(t *testing.T) {
	for n, args := range right() {
		l, m := sample()
		before, kept := clone(m), append([]uint64(nil), args...)
		got, again := do(l, m, n, args, []uint64{3}), do(l, m, n, args, []uint64{3})
		for i := range got.told.Args {
			got.told.Args[i] = 1<<64 - 1
		}
		for i := range got.told.Data {
			got.told.Data[i] = 255
		}
		for i := range got.m {
			_ = append(got.m[i], 255)
			clear(got.m[i])
			got.m[i] = nil
		}
		if !sameMemory(m, before) || !sameList(args, kept) {
			t.Errorf("what Do(%d) answers is what it was handed", n)
		}
		if !sameDone(again, modelDo(l, m, n, args, []uint64{3})) {
			t.Errorf("two answers of Do(%d) share something", n)
		}
	}
}

func TestAreasThatShareTheirBytesAreSharedNoMore(t *testing.T) {
	l := api.Layout{Context: api.Area{Size: 8, Write: true}, Maps: []api.Area{{Size: 8, Write: true}}}
	b := make([]byte, 8)
	for n, args := range map[int][]uint64{1: nil, 4: {mem.Address(3, 0), 8}} {
		got := do(l, api.Memory{b, make([]byte, 512), b}, n, args, []uint64{0x0101010101010101})
		if got.e != api.OK {
			t.Fatal(n, got.e)
		}
		got.m[2][0] = 7
		if got.m[0][0] != 0 || b[0] != 0 {
			t.Errorf("Do(%d): two areas of its answer share their bytes", n)
		}
	}
}

func TestWhoWritesNothingLeavesTheMemory(t *testing.T) {
	l, m := sample()
	for _, n := range []int{1, 2, 3, 5} {
		for _, x := range []uint64{0, 1, 1<<64 - 1} {
			got := do(l, m, n, right()[n], []uint64{x})
			if got.e != api.OK || !sameMemory(got.m, m) || !mem.May(l, got.m) {
				t.Errorf("Do(%d) with the answer %d: %d, or another memory", n, x, got.e)
			}
			if _, writes, ok := helper.Spans(n, right()[n]); !ok || writes != (api.Span{}) {
				t.Errorf("Spans(%d) tells that it writes %v", n, writes)
			}
		}
	}
}

func TestRecvWritesItsSpanAlone(t *testing.T) {
	l, m := sample()
	args := right()[4]
	_, s, _ := helper.Spans(4, args)
	region, off := mem.Split(s.At)
	got := do(l, m, 4, args, []uint64{1<<64 - 1})
	for i := range m {
		for j := range m[i] {
			inside := i == region-1 && off <= j && j < off+s.N
			if !inside && got.m[i][j] != m[i][j] || inside && got.m[i][j] != 255 {
				t.Fatalf("byte %d of area %d: %d", j, i, got.m[i][j])
			}
		}
	}
}
