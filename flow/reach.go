package flow

import (
	"clevis/api"
	"clevis/legal"
)

// reach answers what one may come to in a program that may be.
func reach(p []api.Ins) []int {
	met := walk(p)
	var l []int
	for i := range len(p) {
		if met[i] {
			l = append(l, i)
		}
	}
	return l
}

// walk tells of each place whether one may come to it. It is no call within a call, since a way may be as long as the program.
func walk(p []api.Ins) []bool {
	met := make([]bool, len(p))
	met[0] = true
	todo := []int{0}
	for len(todo) > 0 {
		last := len(todo) - 1
		i := todo[last]
		todo = todo[:last]
		for _, next := range legal.Succ(p, i) {
			if !met[next] {
				met[next] = true
				todo = append(todo, next)
			}
		}
	}
	return met
}
