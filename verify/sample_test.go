package verify_test

import (
	"slices"
	"testing"

	"clevis/api"
	"clevis/verify"
)

// sample has regions of many sizes: such that may be written, and such that may not.
var sample = api.Layout{Context: api.Area{Size: 16}, Maps: []api.Area{{Size: 20, Write: true}, {Size: 300}, {Size: 64, Write: true}}}

func ins(op, dst, src, off, imm int) api.Ins {
	return api.Ins{Op: op, Dst: dst, Src: src, Off: off, Imm: imm}
}

var exit = api.Ins{Op: 0x95}

func mov(d, imm int) api.Ins          { return ins(0xb7, d, 0, 0, imm) }
func copied(d, s int) api.Ins         { return ins(0xbf, d, s, 0, 0) }
func add(d, imm int) api.Ins          { return ins(0x07, d, 0, 0, imm) }
func and(d, imm int) api.Ins          { return ins(0x57, d, 0, 0, imm) }
func ja(off int) api.Ins              { return ins(0x05, 0, 0, off, 0) }
func above(d, imm, off int) api.Ins   { return ins(0x25, d, 0, off, imm) }
func below(d, imm, off int) api.Ins   { return ins(0xa5, d, 0, off, imm) }
func equal(d, imm, off int) api.Ins   { return ins(0x15, d, 0, off, imm) }
func byteAt(d, s, off int) api.Ins    { return ins(0x71, d, s, off, 0) } // a byte at s and off
func eightAt(d, s, off int) api.Ins   { return ins(0x79, d, s, off, 0) }
func putByte(d, off, s int) api.Ins   { return ins(0x73, d, s, off, 0) }
func putEight(d, off, s int) api.Ins  { return ins(0x7b, d, s, off, 0) }
func putNumber(d, off, n int) api.Ins { return ins(0x7a, d, 0, off, n) }
func call(h int) api.Ins              { return ins(0x85, 0, 0, 0, h) }

// wide answers both slots of a number, or of a map's address.
func wide(d int, x uint64) []api.Ins {
	return []api.Ins{{Op: 0x18, Dst: d, Imm: int(int32(x)), Wide: x}, {}}
}

func wideMap(d, i int) []api.Ins {
	return []api.Ins{{Op: 0x18, Dst: d, Src: 1, Imm: i, Wide: uint64(i)}, {}}
}

// row answers a program of instructions and rows of such.
func row(parts ...any) []api.Ins {
	var p []api.Ins
	for _, x := range parts {
		switch x := x.(type) {
		case api.Ins:
			p = append(p, x)
		case []api.Ins:
			p = append(p, x...)
		}
	}
	return p
}

func seen(region, low, high int) api.Fact {
	return api.Fact{Seen: true, Region: region, Low: int64(low), High: int64(high)}
}

// same tells whether two verdicts are; of lists that are empty one may be nil.
func same(a, b api.Verdict) bool {
	return a.Code == b.Code && a.At == b.At && a.Visits == b.Visits && slices.Equal(a.Facts, b.Facts)
}

// accepts asks for a program that is accepted after so many visits; of the facts those that are Seen.
func accepts(t *testing.T, p []api.Ins, visits int, facts map[int]api.Fact) {
	t.Helper()
	want := api.Verdict{Visits: visits, Facts: make([]api.Fact, len(p))}
	for at, f := range facts {
		want.Facts[at] = f
	}
	for _, budget := range []int{visits, visits + 1, 1000000} {
		if got := verify.Verify(sample, p, budget); !same(got, want) {
			t.Errorf("Verify(%v, %d) = %v; want %v", p, budget, got, want)
		}
	}
	if visits == 1 {
		return
	}
	if got := verify.Verify(sample, p, visits-1); got.Code != api.ErrVisits || got.Visits != visits-1 || len(got.Facts) != 0 {
		t.Errorf("Verify(%v, %d) = %v; want ErrVisits", p, visits-1, got)
	}
}

// refuses asks for a program that is refused, after so many visits.
func refuses(t *testing.T, p []api.Ins, budget int, code api.Errno, at, visits int) {
	t.Helper()
	got, want := verify.Verify(sample, p, budget), api.Verdict{Code: code, At: at, Visits: visits}
	if !same(got, want) {
		t.Errorf("Verify(%v, %d) = %v; want %v", p, budget, got, want)
	}
}
