package mem

import (
	"math"
	"reflect"
	"testing"

	"clevis/api"
)

// maps answers maps of these sizes; every second one may be written.
func maps(sizes ...int) []api.Area {
	var l []api.Area
	for i, n := range sizes {
		l = append(l, api.Area{Size: n, Write: i%2 == 1})
	}
	return l
}

func layout(context int, sizes ...int) api.Layout {
	return api.Layout{Context: api.Area{Size: context}, Maps: maps(sizes...)}
}

// right are layouts that may be, wrong ones are not.
var right = []api.Layout{
	{},
	layout(0),
	layout(1),
	layout(4096),
	layout(0, 1),
	layout(64, 4096),
	layout(16, 16, 24, 1, 4096),
	layout(8, 1, 2, 3, 4, 5, 6, 7, 8),
	{Context: api.Area{Size: 4096, Write: true}, Maps: []api.Area{{Size: 4096, Write: true}}},
	{Context: api.Area{Size: 0, Write: true}},
}

var wrong = []api.Layout{
	layout(-1),
	layout(4097),
	layout(math.MinInt),
	layout(math.MaxInt),
	layout(0, 0),
	layout(0, -1),
	layout(0, 4097),
	layout(0, math.MinInt),
	layout(0, math.MaxInt),
	layout(0, 1, 0),
	layout(0, 0, 1),
	layout(0, 1, 2, 3, 4, 5, 6, 7, 0),
	layout(0, 1, 1, 1, 1, 1, 1, 1, 1, 1),
	layout(0, make([]int, 100)...),
	layout(-1, 1, 2, 3),
	layout(1<<32, 1),
	layout(1, 1<<32+1),
}

func TestCheck(t *testing.T) {
	for _, l := range right {
		if e := Check(l); e != api.OK {
			t.Errorf("Check(%v) = %d", l, e)
		}
	}
	for _, l := range wrong {
		if e := Check(l); e != api.ErrLayout {
			t.Errorf("Check(%v) = %d; want ErrLayout", l, e)
		}
	}
	if api.ErrLayout != 22 {
		t.Error("ErrLayout is not 22")
	}
}

func TestArea(t *testing.T) {
	l := api.Layout{
		Context: api.Area{Size: 24, Write: true},
		Maps:    []api.Area{{Size: 16}, {Size: 4096, Write: true}},
	}
	want := map[int]api.Area{
		1: {Size: 24, Write: true}, 2: {Size: 512, Write: true}, 3: {Size: 16}, 4: {Size: 4096, Write: true},
	}
	regions := []int{math.MinInt, math.MinInt + 3, -1 << 32, -1, 0, 1, 2, 3, 4, 5, 6, 10, 11, 1 << 32, 1<<32 + 1, math.MaxInt}
	for _, region := range regions {
		area, is := want[region]
		if a, ok := Area(l, region); a != area || ok != is {
			t.Errorf("Area(%d) = %v, %v; want %v, %v", region, a, ok, area, is)
		}
		if a, ok := Area(api.Layout{}, region); ok != (region == 1 || region == 2) || !ok && a != (api.Area{}) {
			t.Errorf("Area(%d) of the least layout = %v, %v", region, a, ok)
		}
		for _, l := range wrong {
			if a, ok := Area(l, region); ok || a != (api.Area{}) {
				t.Errorf("Area(%v, %d) = %v, %v; the layout may not be", l, region, a, ok)
			}
		}
	}
	if a, ok := Area(layout(7), api.Context); !ok || a != (api.Area{Size: 7}) {
		t.Errorf("a context that may not be written: %v, %v", a, ok)
	}
}

// memory answers noughts of these sizes.
func memory(sizes ...int) api.Memory {
	var m api.Memory
	for _, n := range sizes {
		m = append(m, make([]byte, n))
	}
	return m
}

func TestMay(t *testing.T) {
	l := layout(24, 16, 4)
	for _, c := range []struct {
		m    api.Memory
		want bool
	}{
		{memory(24, 512, 16, 4), true},
		{nil, false},
		{api.Memory{}, false},
		{memory(24), false},
		{memory(24, 512), false},
		{memory(24, 512, 16), false},
		{memory(24, 512, 16, 4, 0), false},
		{memory(24, 512, 16, 4, 4), false},
		{memory(24, 512, 4, 16), false},
		{memory(512, 24, 16, 4), false},
		{memory(23, 512, 16, 4), false},
		{memory(25, 512, 16, 4), false},
		{memory(0, 512, 16, 4), false},
		{memory(24, 511, 16, 4), false},
		{memory(24, 513, 16, 4), false},
		{memory(24, 0, 16, 4), false},
		{memory(24, 512, 15, 4), false},
		{memory(24, 512, 16, 3), false},
		{memory(24, 512, 16, 5), false},
		{api.Memory{nil, nil, nil, nil}, false},
	} {
		if May(l, c.m) != c.want {
			t.Errorf("May of %d areas: %v", len(c.m), !c.want)
		}
	}
	if !May(api.Layout{}, memory(0, 512)) || !May(api.Layout{}, api.Memory{nil, make([]byte, 512)}) {
		t.Error("a context of no bytes")
	}
	if May(api.Layout{}, memory(0)) || May(api.Layout{}, memory(512)) {
		t.Error("a memory without a stack")
	}
	roomy := append(make([]byte, 0, 100), make([]byte, 24)...)
	if !May(l, append(make(api.Memory, 0, 20), roomy, make([]byte, 512), make([]byte, 16), make([]byte, 4))) {
		t.Error("room behind the end counts")
	}
}

func TestMayOfWrongLayouts(t *testing.T) {
	for _, l := range []api.Layout{layout(0, 0), layout(4097), layout(0, 4097), layout(1, 1, 1, 1, 1, 1, 1, 1, 1, 1)} {
		sizes := []int{l.Context.Size, 512}
		for _, a := range l.Maps {
			sizes = append(sizes, a.Size)
		}
		if May(l, memory(sizes...)) {
			t.Errorf("May of %v, which may not be", l)
		}
	}
	for _, l := range wrong {
		if May(l, nil) || May(l, memory(0, 512)) || May(l, memory(1, 512, 1)) {
			t.Errorf("May of %v, which may not be", l)
		}
	}
}

func TestFresh(t *testing.T) {
	for _, l := range right {
		want := memory(l.Context.Size, 512)
		for _, a := range l.Maps {
			want = append(want, make([]byte, a.Size))
		}
		m, e := Fresh(l)
		if e != api.OK || !reflect.DeepEqual(m, want) {
			t.Errorf("Fresh(%v): %d areas, %d", l, len(m), e)
		}
		if !May(l, m) {
			t.Errorf("Fresh(%v) is not that layout's", l)
		}
	}
	for _, l := range wrong {
		if m, e := Fresh(l); len(m) != 0 || e != api.ErrLayout {
			t.Errorf("Fresh(%v): %d areas, %d", l, len(m), e)
		}
	}
}

func TestFreshAnswersNewMemory(t *testing.T) {
	l := layout(4, 4, 4)
	one, _ := Fresh(l)
	for _, b := range one {
		b[0] = 7
		_ = append(b, 9, 9, 9)
	}
	other, _ := Fresh(l)
	if other[0][0] != 0 || other[1][0] != 0 || other[2][0] != 0 || other[3][0] != 0 {
		t.Error("two answers share their bytes")
	}
	for i, b := range one {
		want := make([]byte, len(b))
		want[0] = 7
		if !reflect.DeepEqual(b, want) {
			t.Errorf("area %d shares bytes with another one", i)
		}
	}
}
