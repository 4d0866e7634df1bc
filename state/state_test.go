package state_test

import (
	"reflect"
	"testing"

	"clevis/api"
	"clevis/bound"
	"clevis/state"
)

func TestBegin(t *testing.T) {
	want := with(blank(), func(s *api.Abs) {
		s.Regs[1] = api.Known{Kind: 2, Region: 1}
		s.Regs[10] = api.Known{Kind: 2, Region: 2, Num: api.Bound{Umin: 512, Umax: 512, Smin: 512, Smax: 512, Bits: api.Tnum{Value: 512}}}
	})
	if s := state.Begin(); !reflect.DeepEqual(s, want) || !state.Check(s) {
		t.Errorf("Begin() = %v; want %v", s, want)
	}
	if !state.Holds(begin().Regs[1], 1<<32) || !state.Holds(begin().Regs[10], 2<<32+512) {
		t.Error("what is known at the beginning does not hold of a run")
	}
}

func TestCheckOfWhatIsKnown(t *testing.T) {
	for _, k := range right {
		for r := range 11 {
			if !state.Check(having(r, k)) {
				t.Errorf("Check with %v as register %d", k, r)
			}
		}
		for i := range 64 {
			if !state.Check(keeping(i, k)) {
				t.Errorf("Check with %v saved at %d", k, i)
			}
		}
	}
	for _, k := range wrong {
		for r := range 11 {
			if state.Check(having(r, k)) {
				t.Errorf("Check with %v as register %d, which may not be", k, r)
			}
		}
		for i := range 64 {
			if state.Check(keeping(i, k)) {
				t.Errorf("Check with %v saved at %d, which may not be", k, i)
			}
		}
	}
}

func TestCheckOfRegions(t *testing.T) {
	for region := -20; region <= 40; region++ {
		may := 1 <= region && region <= 10
		if state.Check(having(4, place(region, bound.Size(1)))) != may {
			t.Errorf("Check of a place in region %d: %v", region, !may)
		}
		if state.Check(having(4, api.Known{Kind: api.Number, Num: bound.Size(1), Region: region})) != (region == 0) {
			t.Errorf("Check of a number with region %d", region)
		}
		if state.Check(having(4, api.Known{Region: region})) != (region == 0) {
			t.Errorf("Check of what is not set, with region %d", region)
		}
	}
}

func TestCheckOfKinds(t *testing.T) {
	for kind := api.KnownKind(-5); kind <= 300; kind++ {
		for _, region := range []int{0, 1} {
			k := api.Known{Kind: kind, Num: bound.Const(5), Region: region}
			may := kind == api.Number && region == 0 || kind == api.Place && region == 1
			if state.Check(having(0, k)) != may {
				t.Errorf("Check of %v: %v", k, !may)
			}
		}
	}
}

func TestCheckOfRows(t *testing.T) {
	if !state.Check(blank()) || !state.Check(setFrom(blank(), 0, 512)) || !state.Check(setFrom(blank(), 3, 9)) {
		t.Error("Check of states of which nothing is known but set bytes")
	}
	for i, s := range wrongStates() {
		if state.Check(s) {
			t.Errorf("Check of wrong state %d: %v", i, s)
		}
	}
	roomy := with(blank(), func(s *api.Abs) {
		s.Regs = append(make([]api.Known, 0, 40), s.Regs...)
		s.Set = append(make([]bool, 0, 1000), s.Set...)
		s.Saved = append(make([]api.Known, 0, 100), s.Saved...)
	})
	if !state.Check(roomy) {
		t.Error("room behind the end counts")
	}
}

// TestCheckOfSavedEights: each of the eight bytes counts, those ahead of them and behind do not.
func TestCheckOfSavedEights(t *testing.T) {
	for i := range 64 {
		for b := range 512 {
			s := with(setFrom(blank(), 0, 512), func(s *api.Abs) { s.Saved[i], s.Set[b] = five, false })
			if may := b < 8*i || b >= 8*i+8; state.Check(s) != may {
				t.Fatalf("Check with eight %d saved, byte %d not set: %v", i, b, !may)
			}
		}
	}
}

func TestPut(t *testing.T) {
	s := with(setFrom(begin(), 8, 40), func(s *api.Abs) { s.Saved[2] = few })
	for r := range 11 {
		for _, k := range right {
			got := state.Put(s, r, k)
			if want := with(s, func(s *api.Abs) { s.Regs[r] = k }); !reflect.DeepEqual(got, want) {
				t.Errorf("Put(%d, %v) = %v; want %v", r, k, got, want)
			}
		}
	}
}

func TestPutOfWhatMayNotBe(t *testing.T) {
	s := with(setFrom(begin(), 8, 40), func(s *api.Abs) { s.Saved[2] = few })
	for _, r := range []int{least, -1 << 32, -11, -1, 11, 12, 64, 1 << 32, 1<<32 + 1, most} {
		if got := state.Put(s, r, five); !reflect.DeepEqual(got, s) {
			t.Errorf("Put of register %d changes something", r)
		}
	}
	for _, k := range wrong {
		for r := -1; r <= 11; r++ {
			if got := state.Put(s, r, k); !reflect.DeepEqual(got, s) {
				t.Errorf("Put(%d, %v), which may not be, changes something", r, k)
			}
		}
	}
	for i, s := range wrongStates() {
		for r := -1; r <= 12; r++ {
			if got := state.Put(s, r, five); !same(got, s) {
				t.Errorf("Put(%d) to wrong state %d: %v; want %v", r, i, got, s)
			}
		}
	}
}

// same tells whether two states are alike; a nil and an empty list are.
func same(a, b api.Abs) bool {
	plain := func(s api.Abs) api.Abs {
		return api.Abs{Regs: append([]api.Known{}, s.Regs...), Set: append([]bool{}, s.Set...), Saved: append([]api.Known{}, s.Saved...)}
	}
	return reflect.DeepEqual(plain(a), plain(b))
}

// spoilt writes on all of a state, and past its lists' ends.
func spoilt(s api.Abs) {
	for _, l := range [][]api.Known{s.Regs, s.Saved} {
		for i := range l {
			l[i] = wrong[i%len(wrong)]
		}
		_ = append(l, wrong...)
	}
	for i := range s.Set {
		s.Set[i] = !s.Set[i]
	}
	_ = append(s.Set, true, false, true)
}

// answersOf are all states that calls answer of one, those that are refused, too.
func answersOf(s api.Abs) []api.Abs {
	return []api.Abs{
		state.Put(s, 3, five), state.Put(s, 11, five), state.Put(s, 3, wrong[0]),
		state.Store(s, 16, 16, 8, five), state.Store(s, 16, 40, 2, unset), state.Store(s, 16, 8, 1, unset),
		state.Store(s, 0, 0, 0, unset), state.Store(s, 0, 0, 1, wrong[0]),
	}
}

func TestAnswersAreTheCallersOwn(t *testing.T) {
	states := append(wrongStates(), begin(), keeping(2, few), setFrom(begin(), 0, 512))
	for i, s := range states {
		roomy := with(s, func(s *api.Abs) {
			s.Regs = append(make([]api.Known, 0, 40), s.Regs...)
			s.Set = append(make([]bool, 0, 2000), s.Set...)
			s.Saved = append(make([]api.Known, 0, 1000), s.Saved...)
		})
		for j := range answersOf(roomy) {
			l, want := answersOf(roomy), answersOf(with(s, func(*api.Abs) {}))
			spoilt(l[j])
			for k := range l {
				if k != j && !same(l[k], want[k]) {
					t.Errorf("state %d: answers %d and %d share something", i, j, k)
				}
			}
			if !same(roomy, s) {
				t.Errorf("state %d: it is changed by answer %d, or by who writes on it", i, j)
			}
		}
		spoilt(roomy)
	}
	spoilt(state.Begin())
	if !state.Check(state.Begin()) || !reflect.DeepEqual(state.Begin().Regs[1], place(1, bound.Const(0))) {
		t.Error("two beginnings share something")
	}
}

// TestListsOfOneAnswerShareNothing writes on one list, and looks at the others.
func TestListsOfOneAnswerShareNothing(t *testing.T) {
	for _, s := range append(answersOf(begin()), begin()) {
		saved := append([]api.Known{}, s.Saved...)
		for i := range s.Regs {
			s.Regs[i] = wrong[0]
		}
		_ = append(s.Regs, wrong...)
		if !reflect.DeepEqual(s.Saved, saved) {
			t.Error("registers and what is saved share something")
		}
	}
}
