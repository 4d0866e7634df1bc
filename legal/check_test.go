package legal_test

import (
	"maps"
	"slices"
	"testing"

	"clevis/api"
	"clevis/code"
	"clevis/legal"
)

var (
	set  = api.Ins{Op: 0xb7, Imm: 5}
	exit = api.Ins{Op: 0x95}
	wide = api.Ins{Op: 0x18, Imm: 7, Wide: 9<<32 + 7}
)

// ja jumps; jeq perhaps.
func ja(off int) api.Ins  { return api.Ins{Op: 0x05, Off: off} }
func jeq(off int) api.Ins { return api.Ins{Op: 0x15, Off: off} }

func TestCheckOfWhatMayBe(t *testing.T) {
	for _, l := range [][]api.Ins{
		{set, exit},
		{exit},
		{exit, exit},
		{ja(-1)},
		{ja(0), exit},
		{ja(1), exit, exit},
		{set, ja(-2)},
		{exit, set, ja(-2)}, // nobody comes to the second one
		{jeq(0), exit},
		{jeq(-1), exit},
		{jeq(1), exit, exit},
		{exit, jeq(-2), exit},
		{wide, {}, exit},
		{wide, {}, wide, {}, exit},
		{wide, {}, ja(-3)},
		{ja(0), wide, {}, exit},
		{ja(2), wide, {}, exit},
		{jeq(2), wide, {}, wide, {}, exit},
		{{Op: 0x85, Imm: 1}, exit},
		{{Op: 0x18, Src: 1, Imm: 7, Wide: 7}, {}, exit},
	} {
		before := slices.Clone(l)
		if at, e := legal.Check(l); at != 0 || e != api.OK {
			t.Errorf("Check(%v) = %d, %d", l, at, e)
		}
		if !slices.Equal(l, before) {
			t.Errorf("Check changed %v", before)
		}
	}
}

func TestCheckOfWhatMayNotBe(t *testing.T) {
	bad := api.Ins{Op: 0xb7, Dst: 10}
	for _, c := range []struct {
		l  []api.Ins
		at int
	}{
		{nil, 0},
		{[]api.Ins{}, 0},
		{[]api.Ins{set}, 0},
		{[]api.Ins{{}}, 0},
		{[]api.Ins{{}, exit}, 0},
		{[]api.Ins{exit, {}}, 1}, // a zero Ins that is no hole
		{[]api.Ins{bad, exit}, 0},
		{[]api.Ins{exit, bad}, 1},
		{[]api.Ins{set, bad, bad, exit}, 1},
		{[]api.Ins{exit, set}, 1},
		{[]api.Ins{exit, exit, {Op: 0x85, Imm: 1}}, 2},
		{[]api.Ins{set, {Op: 0x85, Imm: 6}, exit}, 1},
		{[]api.Ins{ja(0)}, 0},
		{[]api.Ins{ja(-2), exit}, 0},
		{[]api.Ins{ja(1), exit}, 0},
		{[]api.Ins{ja(32767), exit}, 0},
		{[]api.Ins{ja(32768), exit}, 0},
		{[]api.Ins{exit, ja(-3)}, 1},
		{[]api.Ins{exit, jeq(-2)}, 1}, // the next one is no place
		{[]api.Ins{jeq(1), exit}, 0},  // the target is none
		{[]api.Ins{set, jeq(-3), exit}, 1},
		{[]api.Ins{ja(1), wide, {}, exit}, 0}, // to a hole
		{[]api.Ins{jeq(1), wide, {}, exit}, 0},
		{[]api.Ins{wide, {}, ja(-2), exit}, 2},
		{[]api.Ins{wide}, 0},
		{[]api.Ins{wide, {}}, 0},
		{[]api.Ins{wide, exit}, 0},
		{[]api.Ins{wide, set, exit}, 0},
		{[]api.Ins{wide, wide, {}, exit}, 0},
		{[]api.Ins{wide, wide, exit}, 0},
		{[]api.Ins{wide, {Dst: 1}, exit}, 0},
		{[]api.Ins{wide, {Imm: 9}, exit}, 0},
		{[]api.Ins{wide, {Wide: 9}, exit}, 0},
		{[]api.Ins{exit, wide}, 1},
		{[]api.Ins{exit, wide, {}}, 1},
		{[]api.Ins{exit, wide, exit, exit}, 1},
		{[]api.Ins{{Op: 0x18, Dst: 10}, {}, exit}, 0},
		{[]api.Ins{exit, {Op: 0x18, Src: 2}, {}, exit}, 1},
		{[]api.Ins{wide, {}, {Op: 0x18, Wide: 5}, {}, exit}, 2},
		{[]api.Ins{wide, {}, {}, exit}, 2},
		{[]api.Ins{set, exit}[:1], 0}, // what lies behind the end is nobody's
		{[]api.Ins{wide, {}, exit}[:1], 0},
		{[]api.Ins{wide, {}, exit}[:2], 0},
	} {
		before := slices.Clone(c.l)
		if at, e := legal.Check(c.l); at != c.at || e != api.ErrForm {
			t.Errorf("Check(%v) = %d, %d; want %d", c.l, at, e, c.at)
		}
		if !slices.Equal(c.l, before) {
			t.Errorf("Check changed %v", before)
		}
	}
}

func TestCheckTakesSoManyPlaces(t *testing.T) {
	for _, c := range []struct {
		n    int
		last api.Ins
		at   int
		want api.Errno
	}{
		{1, exit, 0, api.OK},
		{4095, exit, 0, api.OK},
		{4096, exit, 0, api.OK},
		{4096, ja(-4096), 0, api.OK},
		{4096, ja(-4097), 4095, api.ErrForm},
		{4096, set, 4095, api.ErrForm},
		{4097, exit, 0, api.ErrLong},
		{4097, set, 0, api.ErrLong}, // ErrLong stands first
		{100000, exit, 0, api.ErrLong},
	} {
		l := slices.Repeat([]api.Ins{set}, c.n)
		l[c.n-1] = c.last
		if at, e := legal.Check(l); at != c.at || e != c.want {
			t.Errorf("Check of %d that end with %v = %d, %d; want %d, %d", c.n, c.last, at, e, c.at, c.want)
		}
	}
	if at, e := legal.Check(make([]api.Ins, 4097)); at != 0 || e != api.ErrLong {
		t.Errorf("Check of too many wrong ones = %d, %d", at, e)
	}
}

// TestCheckOfManyWideOnes: holes are told from wide ones by counting from the front, which must not take long.
func TestCheckOfManyWideOnes(t *testing.T) {
	l := slices.Repeat([]api.Ins{wide, {}}, 2047)
	l = append(l, exit, exit)
	if at, e := legal.Check(l); at != 0 || e != api.OK {
		t.Errorf("Check = %d, %d", at, e)
	}
	l[4093] = wide
	if at, e := legal.Check(l); at != 4092 || e != api.ErrForm {
		t.Errorf("Check = %d, %d", at, e)
	}
	row := slices.Repeat([]api.Ins{wide}, 4096)
	for i := range 2048 {
		row[i] = jeq(4094 - (i + 1)) // to the last one that is no hole
	}
	if at, e := legal.Check(row); at != 2048 || e != api.ErrForm {
		t.Errorf("Check = %d, %d", at, e)
	}
}

// ops are those of one slot, rising.
func ops(shapes map[int]string) []int { return slices.Sorted(maps.Keys(shapes)) }

func TestCheckAgainstTheModel(t *testing.T) {
	r, shapes := chance(), modelShapes()
	all := ops(shapes)
	right, wrong, later := 0, 0, 0
	for range 60000 {
		l := someProgram(r, shapes, all)
		at, e := legal.Check(l)
		if wantAt, want := modelCheck(shapes, l); at != wantAt || e != want {
			t.Fatalf("Check(%v) = %d, %d; want %d, %d", l, at, e, wantAt, want)
		}
		switch {
		case e == api.OK:
			right++
		case at > 0:
			later++
		default:
			wrong++
		}
	}
	if right < 5000 || wrong < 5000 || later < 5000 {
		t.Errorf("%d right ones, %d wrong ones, %d that are wrong farther on: too few of one kind", right, wrong, later)
	}
}

func TestSuccAgainstTheModel(t *testing.T) {
	r, shapes := chance(), modelShapes()
	all := ops(shapes)
	for range 5000 {
		l := someProgram(r, shapes, all)
		for i := -2; i < len(l)+3; i++ {
			if got, want := legal.Succ(l, i), modelSucc(shapes, l, i); !slices.Equal(got, want) {
				t.Fatalf("Succ(%v, %d) = %v; want %v", l, i, got, want)
			}
		}
	}
}

// reach answers all places that one may come to from the first one.
func reach(l []api.Ins) []int {
	seen := map[int]bool{}
	way := []int{0}
	for len(way) > 0 {
		i := way[len(way)-1]
		way = way[:len(way)-1]
		if !seen[i] {
			seen[i] = true
			way = append(way, legal.Succ(l, i)...)
		}
	}
	return slices.Sorted(maps.Keys(seen))
}

// TestNobodyLeavesTheList: what Check takes is left by Exit alone, no hole is done, and each instruction may be.
func TestNobodyLeavesTheList(t *testing.T) {
	r, shapes := chance(), modelShapes()
	all := ops(shapes)
	found := 0
	for range 40000 {
		l := someProgram(r, shapes, all)
		if _, e := legal.Check(l); e != api.OK {
			continue
		}
		found++
		for _, i := range reach(l) {
			if i < 0 || i >= len(l) || code.Hole(l, i) || !legal.Ins(l[i]) {
				t.Fatalf("%v comes to %d", l, i)
			}
			if n := len(legal.Succ(l, i)); (n == 0) != (l[i].Op == 0x95) {
				t.Fatalf("%v: %d ways on from %d", l, n, i)
			}
		}
		if _, e := code.Encode(l); e != api.OK {
			t.Fatalf("%v may be, and has no bytes: %d", l, e)
		}
	}
	if found < 5000 {
		t.Errorf("%d programs are too few", found)
	}
}
