package state_test

import (
	"testing"

	"clevis/api"
	"clevis/bound"
	"clevis/state"
)

// saysMore are pairs of what is known: whether all that the second says is within what the first says.
var saysMore = []struct {
	a, b api.Known
	want bool
}{
	{unset, unset, true}, {unset, five, true}, {unset, all, true}, {unset, place(2, bound.Any()), true},
	{five, unset, false}, {all, unset, false}, {place(1, bound.Any()), unset, false},
	{all, five, true}, {five, all, false}, {five, five, true}, {all, all, true}, {few, five, true}, {five, few, false},
	{few, number(bound.Const(255)), true}, {few, number(bound.Const(256)), false}, {five, number(bound.Const(6)), false},
	{few, number(bound.Size(2)), false}, {number(bound.Size(2)), few, true},
	{number(api.Bound{Umax: 8, Smax: 8, Bits: api.Tnum{Mask: 14}}), five, false}, // by its bits
	{number(api.Bound{Umax: full, Smin: -1, Smax: 4, Bits: api.Tnum{Mask: full}}), five, false},
	{number(api.Bound{Umax: full, Smin: -1, Smax: 5, Bits: api.Tnum{Mask: full}}), five, true},
	{all, place(1, bound.Const(5)), false}, {place(1, bound.Any()), five, false},
	{number(api.Bound{}), place(1, api.Bound{}), false}, {place(1, api.Bound{}), number(api.Bound{}), false},
	{place(1, bound.Any()), place(1, bound.Const(5)), true}, {place(1, bound.Const(5)), place(1, bound.Any()), false},
	{place(1, bound.Any()), place(2, bound.Const(5)), false}, {place(2, bound.Any()), place(1, bound.Any()), false},
	{place(10, bound.Const(5)), place(10, bound.Const(5)), true}, {place(10, bound.Const(5)), place(9, bound.Const(5)), false},
	{place(3, bound.Size(1)), place(3, bound.Const(256)), false}, {place(3, bound.Size(1)), place(3, bound.Const(255)), true},
	{number(empty), number(empty), true},
}

func TestWithinOfWhatIsKnown(t *testing.T) {
	for _, c := range saysMore {
		for r := range 11 {
			if got := state.Within(having(r, c.a), having(r, c.b)); got != c.want {
				t.Errorf("Within of %v, %v as register %d: %v", c.a, c.b, r, got)
			}
		}
		for i := range 64 {
			if got := state.Within(keeping(i, c.a), keeping(i, c.b)); got != c.want {
				t.Errorf("Within of %v, %v saved at %d: %v", c.a, c.b, i, got)
			}
		}
	}
}

func TestWithinOfSetBytes(t *testing.T) {
	for i := range 512 {
		one := setFrom(blank(), i, i+1)
		if !state.Within(blank(), one) || state.Within(one, blank()) || !state.Within(one, one) {
			t.Errorf("Within of byte %d, set or not", i)
		}
		if !state.Within(one, setFrom(blank(), 0, 512)) || state.Within(setFrom(blank(), 0, 512), one) {
			t.Errorf("Within of byte %d, or all", i)
		}
		if other := setFrom(blank(), (i+1)%512, (i+1)%512+1); state.Within(one, other) {
			t.Errorf("Within of byte %d, and the one behind", i)
		}
	}
}

// TestWithinOfSetBytesAndWhatIsSaved: what lies in set bytes need not be saved in the wider state.
func TestWithinOfSetBytesAndWhatIsSaved(t *testing.T) {
	bytes := setFrom(blank(), 16, 24)
	if !state.Within(bytes, keeping(2, five)) || state.Within(keeping(2, five), bytes) {
		t.Error("Within of a saved number, and of its bytes")
	}
	if !state.Within(blank(), keeping(2, five)) || state.Within(keeping(2, five), blank()) {
		t.Error("Within of a saved number, and of nothing")
	}
	if state.Within(keeping(2, five), keeping(3, five)) {
		t.Error("Within of a saved number elsewhere")
	}
}

func TestWithinOfTheBeginning(t *testing.T) {
	if !state.Within(begin(), begin()) || !state.Within(blank(), begin()) || state.Within(begin(), blank()) {
		t.Error("Within of the beginning")
	}
	for r := range 11 {
		s := state.Put(begin(), r, five)
		if !state.Within(s, s) || state.Within(s, begin()) || state.Within(begin(), s) != (r != 1 && r != 10) {
			t.Errorf("Within of the beginning, and register %d", r)
		}
	}
}

func TestWithinOfWhatMayNotBe(t *testing.T) {
	for i, s := range wrongStates() {
		for _, other := range []api.Abs{s, blank(), begin(), setFrom(blank(), 0, 512), keeping(3, five), {}} {
			if state.Within(s, other) || state.Within(other, s) {
				t.Errorf("Within of wrong state %d", i)
			}
		}
	}
	// Nothing else stands against it: all that is wrong lies where nothing is asked.
	wide, narrow := blank(), with(keeping(2, five), func(s *api.Abs) { s.Regs[0] = wrong[0] })
	if state.Within(wide, narrow) {
		t.Error("Within of a narrow state that may not be")
	}
	if state.Within(with(wide, func(s *api.Abs) { s.Regs[0] = wrong[0] }), keeping(2, five)) {
		t.Error("Within of a wide state that may not be")
	}
}
