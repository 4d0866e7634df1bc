package verify_test

import (
	"testing"

	"clevis/api"
	"clevis/verify"
)

// TestTheGreatestBudget: visits that lie a million deep, the last one within the budget, or just behind it.
func TestTheGreatestBudget(t *testing.T) {
	t.Run("accepted", func(t *testing.T) {
		t.Parallel()
		p := row(mov(0, 0), add(0, 1), below(0, 499999, -2), exit)
		if v := verify.Verify(sample, p, 1000000); !same(v, api.Verdict{Visits: 1000000, Facts: make([]api.Fact, 4)}) {
			t.Errorf("%v", v)
		}
	})
	t.Run("refused", func(t *testing.T) {
		t.Parallel()
		refuses(t, row(mov(0, 0), add(0, 1), below(0, 500000, -2), exit), 1000000, api.ErrVisits, 2, 1000000)
	})
}

// TestManyStates: an instruction is visited often, with numbers in no order, from here to there, on the stack, or in many registers.
func TestManyStates(t *testing.T) {
	refuses(t, row(mov(0, 1), ins(0x27, 0, 0, 0, 7), ja(-2)), 60000, api.ErrVisits, 2, 60000)
	refuses(t, row(byteAt(0, 1, 0), add(0, 1), ja(-2)), 60000, api.ErrVisits, 2, 60000)
	// 5 times a number of 14 bits: it is there again after 2^12 rounds
	refuses(t, row(mov(0, 1), ins(0x27, 0, 0, 0, 5), and(0, 1<<14-1), ja(-3)), 60000, api.ErrLoop, 1, 1+3<<12)
	accepts(t, row(mov(0, 1), mov(2, 0), ins(0x27, 0, 0, 0, 5), and(0, 1<<14-1), add(2, 1), below(2, 1<<13, -4), exit), 2+4<<13+1, nil)
	// a state for each of two ways, of fourteen bytes in a row
	var p []api.Ins
	for i := range 14 {
		p = append(p, byteAt(0, 1, i), above(0, 128, 0), putEight(10, -8*(i+1), 0))
	}
	v := verify.Verify(sample, row(p, exit), 1000000)
	if v.Code != api.OK || v.Visits != 4*(1<<14-1)+1<<14 {
		t.Errorf("%d after %d visits", v.Code, v.Visits)
	}
}

// TestManyThatSayIt: of the visits that have ended many say it, far from one another.
func TestManyThatSayIt(t *testing.T) {
	for _, n := range []int{10, 100, 1000, 3000} {
		p := row(
			byteAt(4, 1, 2),
			equal(4, 0, 8), // the last way: to 300
			byteAt(0, 1, 0),
			mov(3, 0),
			add(0, 1), // a round: r0 is from its number to 255 more
			byteAt(2, 1, 1),
			equal(2, 7, 4), // on behind 300
			add(3, 1),
			below(3, n, -5),
			ja(1),
			mov(0, 300),
			mov(2, 0),
			mov(3, 0),
			mov(4, 0),
			exit,
		)
		// ahead of the rounds, each of them, behind them; then back from the last one, from the others, and from 300
		visits := 4 + 5*n + 5 + 2 + 4*(n-1) + 4
		if n < 45 {
			visits++ // no round is of 300
		}
		accepts(t, p, visits, map[int]api.Fact{0: seen(1, 2, 2), 2: seen(1, 0, 0), 5: seen(1, 1, 1)})
	}
}
