package state_test

import (
	"math/rand"
	"reflect"
	"testing"

	"clevis/api"
	"clevis/bound"
	"clevis/state"
)

// anyState answers a state that may be, or, seldom, one that may not.
func anyState(chance *rand.Rand, wrong []api.Abs) api.Abs {
	switch chance.Intn(8) {
	case 0:
		return wrong[chance.Intn(len(wrong))]
	case 1:
		return begin()
	case 2:
		return setFrom(stateBy(chance), 0, 512)
	}
	return changed(chance, stateBy(chance))
}

// offset answers an offset on the stack, or a little past its ends.
func offset(chance *rand.Rand) int {
	if chance.Intn(3) == 0 {
		return 8*chance.Intn(65) + 8*chance.Intn(2)
	}
	return chance.Intn(520) - 4
}

// row answers an access by chance: low, high, n.
func row(chance *rand.Rand) (int, int, int) {
	low, n := offset(chance), []int{1, 2, 4, 8, 8, 8, 3, 16, 64, 0, -1}[chance.Intn(11)]
	switch chance.Intn(4) {
	case 0:
		return low, low + chance.Intn(20) - 2, n
	case 1:
		return low, offset(chance), n
	}
	return low, low, n
}

func TestAgainstTheModel(t *testing.T) {
	chance, wrong := rand.New(rand.NewSource(1)), wrongStates()
	for range 20000 {
		s := anyState(chance, wrong)
		if got, want := state.Check(s), modelCheck(s); got != want {
			t.Fatalf("Check(%v) = %v", s, got)
		}
		r, k := chance.Intn(14)-1, known(chance, true)
		if got, want := state.Put(s, r, k), modelPut(s, r, k); !same(got, want) {
			t.Fatalf("Put(%v, %d, %v) = %v; want %v", s, r, k, got, want)
		}
		low, high, n := row(chance)
		if got, want := state.Store(s, low, high, n, k), modelStore(s, low, high, n, k); !same(got, want) {
			t.Fatalf("Store(%v, %d, %d, %d, %v) = %v; want %v", s, low, high, n, k, got, want)
		}
		got, ok := state.Load(s, low, high, n)
		if want, may := modelLoad(s, low, high, n); got != want || ok != may {
			t.Fatalf("Load(%v, %d, %d, %d) = %v, %v; want %v, %v", s, low, high, n, got, ok, want, may)
		}
		if got, want := state.Ready(s, low, high), modelReady(s, low, high); got != want {
			t.Fatalf("Ready(%v, %d, %d) = %v", s, low, high, got)
		}
	}
}

func TestWithinAgainstTheModel(t *testing.T) {
	chance, wrong := rand.New(rand.NewSource(2)), wrongStates()
	within := 0
	for range 20000 {
		a := anyState(chance, wrong)
		b := anyState(chance, wrong)
		if chance.Intn(4) > 0 && modelCheck(a) {
			b = changed(chance, a)
		}
		for range 2 {
			got, want := state.Within(a, b), modelWithin(a, b)
			if got != want {
				t.Fatalf("Within(%v, %v) = %v", a, b, got)
			}
			if got {
				within++
			}
			a, b = b, a
		}
	}
	if within < 2000 {
		t.Errorf("only %d states were within another one", within)
	}
}

func TestHoldsAgainstTheModel(t *testing.T) {
	chance := rand.New(rand.NewSource(3))
	for range 200000 {
		x := some(chance)
		k := holding(chance, x)
		if !state.Holds(k, x) {
			t.Fatalf("Holds(%v, %#x) is false", k, x)
		}
		k, y := known(chance, true), some(chance)+uint64(chance.Intn(12))<<32
		for _, x := range []uint64{x, y, x + uint64(k.Region)<<32, k.Num.Umin + uint64(k.Region)<<32, k.Num.Umax + 1 + uint64(k.Region)<<32} {
			if got, want := state.Holds(k, x), modelHolds(k, x); got != want {
				t.Fatalf("Holds(%v, %#x) = %v", k, x, got)
			}
		}
	}
}

// TestAStateIsWithinItself, and what is within what is within is within.
func TestAStateIsWithinItself(t *testing.T) {
	chance := rand.New(rand.NewSource(4))
	for range 5000 {
		s := stateBy(chance)
		if !state.Check(s) || !state.Within(s, s) || !state.Within(blank(), s) {
			t.Fatalf("Within(%v, itself) is false", s)
		}
		wide, wider := changed(chance, s), changed(chance, changed(chance, s))
		if state.Within(wide, s) && state.Within(wider, wide) && !state.Within(wider, s) {
			t.Fatalf("%v is within %v, that within %v, but not the first in the last", s, wide, wider)
		}
	}
}

// TestWhatHoldsOfTheNarrowHoldsOfTheWide asks for numbers near the ends of what is known.
func TestWhatHoldsOfTheNarrowHoldsOfTheWide(t *testing.T) {
	chance := rand.New(rand.NewSource(5))
	for range 50000 {
		x := some(chance)
		a, b := holding(chance, x), holding(chance, x)
		if !state.Within(having(7, a), having(7, b)) {
			continue
		}
		for _, y := range []uint64{x, b.Num.Umin, b.Num.Umax, uint64(b.Num.Smin), x + 1, x - 1, some(chance)} {
			y += uint64(b.Region) << 32 * uint64(chance.Intn(2))
			if state.Holds(b, y) && !state.Holds(a, y) {
				t.Fatalf("%v is within %v, and %#x in the first alone", b, a, y)
			}
		}
	}
}

// stack is what a run's stack holds.
type stack struct {
	bytes [512]byte
	set   [512]bool
}

func (s *stack) put(at, n int, x uint64) {
	for i := range n {
		s.bytes[at+i], s.set[at+i] = byte(x>>(8*i)), true
	}
}

func (s *stack) get(at, n int) uint64 {
	x := uint64(0)
	for i := range n {
		x |= uint64(s.bytes[at+i]) << (8 * i)
	}
	return x
}

// span answers a place at which n bytes may lie, and from where to where it is known to be.
func span(chance *rand.Rand, n int) (int, int, int) {
	at := chance.Intn(513 - n)
	if n == 8 && chance.Intn(3) > 0 {
		at -= at % 8
	}
	if chance.Intn(3) > 0 {
		return at, at, at
	}
	return at, max(0, at-chance.Intn(12)), min(512-n, at+chance.Intn(12))
}

// TestWhatIsKnownHoldsOfAStack goes through stores and loads with a stack beside: what may be loaded was set, and is what is known.
func TestWhatIsKnownHoldsOfAStack(t *testing.T) {
	chance := rand.New(rand.NewSource(6))
	loads := 0
	for range 200 {
		s, real := state.Begin(), &stack{}
		for range 200 {
			n := 1 << chance.Intn(4)
			at, low, high := span(chance, n)
			x := some(chance)
			before := s
			s = state.Store(s, low, high, n, holding(chance, x))
			real.put(at, n, x)
			if !state.Check(s) || !reflect.DeepEqual(s.Regs, before.Regs) {
				t.Fatalf("Store(%d, %d, %d) answers what may not be, or other registers", low, high, n)
			}
			n = 1 << chance.Intn(4)
			at, low, high = span(chance, n)
			k, ok := state.Load(s, low, high, n)
			if !ok {
				continue
			}
			loads++
			for i := range n {
				if !real.set[at+i] {
					t.Fatalf("Load(%d, %d, %d): byte %d was never set", low, high, n, at+i)
				}
			}
			if y := real.get(at, n); !state.Holds(k, y) {
				t.Fatalf("Load(%d, %d, %d) = %v; at %d there is %#x", low, high, n, k, at, y)
			}
		}
	}
	if loads < 5000 {
		t.Errorf("only %d loads", loads)
	}
}

// TestNothingIsReadyThatIsNotSet, and all that is.
func TestNothingIsReadyThatIsNotSet(t *testing.T) {
	chance := rand.New(rand.NewSource(7))
	for range 300 {
		s := stateBy(chance)
		low := chance.Intn(513)
		high := low + chance.Intn(min(20, 513-low))
		if got := state.Ready(s, low, high); got != modelReady(s, low, high) {
			t.Fatalf("Ready(%d, %d) = %v", low, high, got)
		}
		for i := range 512 {
			if state.Ready(s, i, i+1) != s.Set[i] {
				t.Fatalf("Ready of byte %d", i)
			}
		}
	}
}

func TestSizeIsLayer8s(t *testing.T) {
	for n := 1; n <= 512; n++ {
		if k, ok := state.Load(setFrom(begin(), 0, 512), 0, 0, n); k != number(bound.Size(n)) || !ok {
			t.Errorf("Load of %d bytes = %v, %v", n, k, ok)
		}
	}
}
