package flow

import (
	"maps"
	"slices"

	"clevis/api"
	"clevis/code"
	"clevis/legal"
)

// opJa is the jump that has no condition.
const opJa = api.ClsJmp | api.Ja

// jumps tells whether an instruction ends its block, and what it leads to begins others.
func jumps(x api.Ins) bool {
	_, _, ok := legal.Jump(x.Op)
	return ok || x.Op == opJa
}

// leaders answers the instructions at which blocks begin, each with the place of its block.
func leaders(p []api.Ins, reach []int) map[int]int {
	places := map[int]int{0: 0}
	for _, i := range reach {
		if !jumps(p[i]) {
			continue
		}
		for _, next := range legal.Succ(p, i) {
			places[next] = 0
		}
	}
	for place, from := range slices.Sorted(maps.Keys(places)) {
		places[from] = place
	}
	return places
}

// cut answers the blocks, but not yet which of them lead to which.
func cut(p []api.Ins, reach []int, places map[int]int) []api.Block {
	l := make([]api.Block, len(places))
	place := 0
	for _, i := range reach {
		// What is no leader is come to from the one ahead of it alone, so it goes on with that one's block.
		if at, ok := places[i]; ok {
			place = at
			l[place].From = i
		}
		l[place].Last = i
		l[place].To = behind(p, i)
	}
	return l
}

// behind answers the place behind an instruction.
func behind(p []api.Ins, i int) int {
	if code.Hole(p, i+1) {
		return i + 2
	}
	return i + 1
}

// link notes which blocks lead to which. It goes through them in order, so that Pred rises.
func link(p []api.Ins, l []api.Block, places map[int]int) {
	for from := range l {
		for _, next := range legal.Succ(p, l[from].Last) {
			to := places[next]
			if slices.Contains(l[from].Succ, to) { // a jump by 0 leads to one block twice
				continue
			}
			l[from].Succ = append(l[from].Succ, to)
			l[to].Pred = append(l[to].Pred, from)
		}
	}
}
