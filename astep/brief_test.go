package astep_test

import (
	"fmt"
	"strings"

	"clevis/api"
)

// brief tells where one may go on, and what is known there otherwise than ahead of it.
func brief(l []api.Next, before api.Abs) string {
	var t []string
	for _, n := range l {
		t = append(t, fmt.Sprintf("at %d:%s", n.At, change(before, n.Abs)))
	}
	return "[" + strings.Join(t, "; ") + "]"
}

// change tells how a state is changed.
func change(a, b api.Abs) string {
	if len(b.Regs) != len(a.Regs) || len(b.Set) != len(a.Set) || len(b.Saved) != len(a.Saved) {
		return " rows of other lengths"
	}
	t := ""
	for i := range b.Regs {
		if a.Regs[i] != b.Regs[i] {
			t += fmt.Sprintf(" r%d %v", i, b.Regs[i])
		}
	}
	for i := range b.Set {
		if a.Set[i] != b.Set[i] {
			t += fmt.Sprintf(" byte %d %v", i, b.Set[i])
		}
	}
	for i := range b.Saved {
		if a.Saved[i] != b.Saved[i] {
			t += fmt.Sprintf(" at %d %v", 8*i, b.Saved[i])
		}
	}
	return t
}
