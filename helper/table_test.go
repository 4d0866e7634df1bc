package helper_test

import (
	"math"
	"reflect"
	"testing"

	"clevis/api"
	"clevis/helper"
)

// numbers are those of helpers, and others.
var numbers = []int{math.MinInt, -1 << 32, -5, -1, 0, 1, 2, 3, 4, 5, 6, 7, 8, 255, 256 + 1, 1<<32 + 3, math.MaxInt}

func TestTable(t *testing.T) {
	for n, want := range map[int]api.Helper{
		1: {Name: "now"},
		2: {Name: "put", Args: []api.ArgKind{api.ArgScalar}},
		3: {Name: "send", Args: []api.ArgKind{api.ArgRead, api.ArgSize}, Most: 64},
		4: {Name: "recv", Args: []api.ArgKind{api.ArgWrite, api.ArgSize}, Most: 64},
		5: {Name: "mix", Args: []api.ArgKind{api.ArgScalar, api.ArgScalar, api.ArgScalar}},
	} {
		got, ok := helper.Table(n)
		if !ok || got.Name != want.Name || got.Most != want.Most || !sameList(got.Args, want.Args) {
			t.Errorf("Table(%d) = %+v, %v; want %+v", n, got, ok, want)
		}
	}
}

func TestTableHasNoOthers(t *testing.T) {
	for _, n := range numbers {
		if 1 <= n && n <= last {
			continue
		}
		if got, ok := helper.Table(n); ok || !reflect.DeepEqual(got, api.Helper{}) {
			t.Errorf("Table(%d) = %+v, %v; there is none", n, got, ok)
		}
	}
}

func TestTableAnswersNewMemory(t *testing.T) {
	for n := 1; n <= last; n++ {
		letters, _ := modelLetters(n)
		got, _ := helper.Table(n)
		for i := range got.Args {
			got.Args[i] = 99
		}
		_ = append(got.Args, 99)
		if again, _ := helper.Table(n); !sameList(again.Args, modelKinds(letters)) {
			t.Errorf("Table(%d): %v, after its answer was written on", n, again.Args)
		}
	}
}

func TestSpansExamples(t *testing.T) {
	none := api.Span{}
	for _, c := range []struct {
		n            int
		args         []uint64
		reads, write api.Span
		ok           bool
	}{
		{1, nil, none, none, true},
		{1, []uint64{7, 8, 9}, none, none, true},
		{2, []uint64{7}, none, none, true},
		{2, []uint64{7, 8}, none, none, true},
		{2, nil, none, none, false},
		{3, []uint64{2 << 32, 8}, api.Span{At: 2 << 32, N: 8}, none, true},
		{3, []uint64{2 << 32, 8, 9}, api.Span{At: 2 << 32, N: 8}, none, true},
		{3, []uint64{2 << 32}, none, none, false},
		{3, nil, none, none, false},
		{3, []uint64{5, 0}, api.Span{At: 5, N: 0}, none, true},
		{3, []uint64{5, 64}, api.Span{At: 5, N: 64}, none, true},
		{3, []uint64{5, 65}, api.Span{At: 5, N: 65}, none, true},
		{3, []uint64{5, 66}, api.Span{At: 5, N: 65}, none, true},
		{4, []uint64{1<<64 - 1, 1<<64 - 1}, none, api.Span{At: 1<<64 - 1, N: 65}, true},
		{4, []uint64{0, 1 << 63}, none, api.Span{At: 0, N: 65}, true},
		{4, []uint64{0, 1<<32 + 3}, none, api.Span{At: 0, N: 65}, true},
		{4, []uint64{3<<32 + 4, 1}, none, api.Span{At: 3<<32 + 4, N: 1}, true},
		{4, []uint64{3<<32 + 4}, none, none, false},
		{5, []uint64{1, 2, 3}, none, none, true},
		{5, []uint64{1, 2}, none, none, false},
		{0, []uint64{1, 2, 3}, none, none, false},
		{6, []uint64{1, 2, 3}, none, none, false},
		{-1, []uint64{1, 2, 3}, none, none, false},
	} {
		reads, writes, ok := helper.Spans(c.n, c.args)
		if reads != c.reads || writes != c.write || ok != c.ok {
			t.Errorf("Spans(%d, %v) = %v, %v, %v; want %v, %v, %v", c.n, c.args, reads, writes, ok, c.reads, c.write, c.ok)
		}
	}
}

// sizes are arguments at the edges of sizes, and places.
var sizes = []uint64{0, 1, 2, 7, 8, 9, 63, 64, 65, 66, 255, 256, 257, 4096, 1<<31 - 1, 1 << 31, 1<<32 - 1, 1 << 32, 1<<32 + 1, 1<<63 - 1, 1 << 63, 1<<63 + 1, 1<<64 - 64, 1<<64 - 1}

func TestSpansAgainstTheModel(t *testing.T) {
	for _, n := range numbers {
		for count := range 6 {
			for _, x := range sizes {
				for _, y := range sizes {
					args := []uint64{x, y, y + 3, x + 5, 11}[:count]
					letters, ok := modelLetters(n)
					ok = ok && count >= len(letters)
					var wantReads, wantWrites api.Span
					if ok {
						wantReads, wantWrites = modelSpan(letters, 'r', args), modelSpan(letters, 'w', args)
					}
					reads, writes, got := helper.Spans(n, args)
					if reads != wantReads || writes != wantWrites || got != ok {
						t.Fatalf("Spans(%d, %v) = %v, %v, %v; want %v, %v, %v", n, args, reads, writes, got, wantReads, wantWrites, ok)
					}
				}
			}
		}
	}
}

func TestSpansLeavesItsArguments(t *testing.T) {
	args := []uint64{1 << 32, 100, 3, 4}
	for n := range last + 2 {
		helper.Spans(n, args)
		if !sameList(args, []uint64{1 << 32, 100, 3, 4}) {
			t.Fatalf("Spans(%d) changed its arguments: %v", n, args)
		}
	}
}
