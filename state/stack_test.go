package state_test

import (
	"reflect"
	"testing"

	"clevis/api"
	"clevis/bound"
	"clevis/state"
)

func TestTheChaptersExample(t *testing.T) {
	s := state.Store(begin(), 504, 504, 8, five)
	if k, ok := state.Load(s, 504, 504, 8); k != five || !ok {
		t.Errorf("Load of what was stored = %v, %v", k, ok)
	}
	four := api.Bound{Umax: 1<<32 - 1, Smax: 1<<32 - 1, Bits: api.Tnum{Mask: 1<<32 - 1}}
	if k, ok := state.Load(s, 504, 504, 4); k != number(four) || !ok {
		t.Errorf("Load of four bytes = %v, %v", k, ok)
	}
}

// saved answers a state with all bytes set, and five saved in each eight.
func saved() api.Abs {
	return with(setFrom(begin(), 0, 512), func(s *api.Abs) {
		for i := range s.Saved {
			s.Saved[i] = five
		}
	})
}

// stores are stores that may be: from low to high, n bytes.
var stores = []struct{ low, high, n int }{
	{0, 0, 1}, {0, 0, 8}, {0, 0, 9}, {0, 0, 7}, {0, 0, 512}, {504, 504, 8}, {511, 511, 1}, {505, 505, 7}, {510, 510, 2},
	{7, 7, 1}, {7, 7, 2}, {8, 8, 1}, {4, 4, 8}, {1, 1, 8}, {15, 15, 8}, {16, 16, 8}, {16, 16, 16}, {16, 16, 4}, {20, 20, 4},
	{8, 9, 8}, {8, 16, 8}, {0, 504, 8}, {0, 511, 1}, {0, 1, 511}, {3, 5, 2}, {3, 6, 2}, {3, 7, 2}, {24, 31, 1}, {24, 32, 1}, {24, 25, 8}, {23, 24, 8},
	{100, 200, 3}, {500, 508, 4}, {511, 511, 1}, {503, 504, 8}, {0, 0, 64}, {448, 448, 64}, {440, 448, 64}, {64, 64, 3}, {64, 64, 5},
}

func TestStore(t *testing.T) {
	for _, s := range []api.Abs{begin(), saved(), setFrom(begin(), 0, 512), keeping(2, few)} {
		for _, c := range stores {
			for _, k := range right {
				got := state.Store(s, c.low, c.high, c.n, k)
				if want := modelStore(s, c.low, c.high, c.n, k); !reflect.DeepEqual(got, want) {
					t.Errorf("Store(%d, %d, %d, %v) = %v; want %v", c.low, c.high, c.n, k, got, want)
				}
			}
		}
	}
}

// TestStoreByHand says of some stores which bytes are set then, and which eights are no longer saved.
func TestStoreByHand(t *testing.T) {
	for _, c := range []struct {
		low, high, n int
		from, to     int // bytes that are set
		first, last  int // eights that are lost
	}{
		{0, 0, 1, 0, 1, 0, 0}, {7, 7, 1, 7, 8, 0, 0}, {7, 7, 2, 7, 9, 0, 1}, {8, 8, 1, 8, 9, 1, 1}, {8, 8, 8, 8, 16, 1, 1},
		{4, 4, 8, 4, 12, 0, 1}, {16, 16, 16, 16, 32, 2, 3}, {504, 504, 8, 504, 512, 63, 63}, {511, 511, 1, 511, 512, 63, 63}, {0, 0, 512, 0, 512, 0, 63},
		{3, 6, 2, 0, 0, 0, 0}, {3, 7, 2, 0, 0, 0, 1}, {24, 31, 1, 0, 0, 3, 3}, {24, 32, 1, 0, 0, 3, 4}, {8, 9, 8, 0, 0, 1, 2}, {0, 504, 8, 0, 0, 0, 63}, {504, 511, 1, 0, 0, 63, 63},
	} {
		if got, want := state.Store(begin(), c.low, c.high, c.n, unset), setFrom(begin(), c.from, c.to); !reflect.DeepEqual(got, want) {
			t.Errorf("Store(%d, %d, %d) sets other bytes", c.low, c.high, c.n)
		}
		want := with(saved(), func(s *api.Abs) { clear(s.Saved[c.first : c.last+1]) })
		if got := state.Store(saved(), c.low, c.high, c.n, unset); !reflect.DeepEqual(got, want) {
			t.Errorf("Store(%d, %d, %d) leaves other eights", c.low, c.high, c.n)
		}
	}
}

// TestStoreOfTheWhole: just a store of eight bytes at a known eight saves what is known.
func TestStoreOfTheWhole(t *testing.T) {
	for low := range 512 {
		for n := 1; n <= 16 && low+n <= 512; n++ {
			s := state.Store(begin(), low, low, n, few)
			want := setFrom(begin(), low, low+n)
			if n == 8 && low%8 == 0 {
				want.Saved[low/8] = few
			}
			if !reflect.DeepEqual(s, want) || !state.Check(s) {
				t.Errorf("Store(%d, %d, %d)", low, low, n)
			}
		}
		if s := state.Store(begin(), low, low+1, 8, few); !reflect.DeepEqual(s, begin()) {
			t.Errorf("Store from %d to the next one sets or saves something", low)
		}
	}
}

// outside are numbers that may not be: low, high, n.
var outside = []struct{ low, high, n int }{
	{1, 0, 1}, {504, 503, 8}, {512, 0, 1}, {most, 0, 1}, {most, least, 1}, {8, 0, 8},
	{-1, 0, 8}, {-1, -1, 1}, {-8, -8, 8}, {-8, 504, 8}, {least, 0, 1}, {least, most, 1}, {least, least, 8}, {-1 << 32, 0, 1},
	{0, 512, 1}, {512, 512, 1}, {505, 505, 8}, {504, 505, 8}, {504, 504, 9}, {0, 0, 513}, {0, 505, 8}, {511, 511, 2}, {0, 1, 512}, {513, 513, 1},
	{0, 0, most}, {0, most, 1}, {1, 1, most}, {0, most, most}, {most, most, most}, {most, most, 1}, {0, 1 << 32, 8}, {0, 0, 1<<32 + 8}, {1 << 32, 1 << 32, 8}, {1<<32 + 8, 1<<32 + 8, 8},
	{0, most, least}, {8, most, least + 9},
	{0, 0, 0}, {0, 0, -1}, {8, 8, -8}, {511, 511, 0}, {512, 512, 0}, {0, 512, 0}, {0, 0, least}, {513, 513, -1}, {520, 520, -8}, {0, 8, -8},
}

func TestStoreOfWhatMayNotBe(t *testing.T) {
	for _, s := range []api.Abs{begin(), saved(), keeping(2, few)} {
		for _, c := range outside {
			if got := state.Store(s, c.low, c.high, c.n, few); !reflect.DeepEqual(got, s) {
				t.Errorf("Store(%d, %d, %d), which may not be, changes something", c.low, c.high, c.n)
			}
		}
		for _, k := range wrong {
			for _, c := range stores {
				if got := state.Store(s, c.low, c.high, c.n, k); !reflect.DeepEqual(got, s) {
					t.Errorf("Store(%d, %d, %d, %v), which may not be, changes something", c.low, c.high, c.n, k)
				}
			}
		}
	}
	for i, s := range wrongStates() {
		for _, c := range stores {
			if got := state.Store(s, c.low, c.high, c.n, few); !same(got, s) {
				t.Errorf("Store(%d, %d, %d) changes wrong state %d", c.low, c.high, c.n, i)
			}
		}
	}
}

func TestReady(t *testing.T) {
	s := setFrom(setFrom(begin(), 8, 40), 500, 512)
	for low := -2; low <= 515; low++ {
		for high := -2; high <= 515; high++ {
			may := 0 <= low && low <= high && high <= 512
			want := may && (low == high || 8 <= low && high <= 40 || 500 <= low)
			if state.Ready(s, low, high) != want {
				t.Errorf("Ready(%d, %d): %v", low, high, !want)
			}
		}
	}
	if !state.Ready(setFrom(begin(), 0, 512), 0, 512) || state.Ready(setFrom(begin(), 1, 512), 0, 512) || state.Ready(setFrom(begin(), 0, 511), 0, 512) {
		t.Error("Ready of the whole stack")
	}
	for _, c := range [][2]int{{least, 0}, {least, least}, {least, most}, {0, most}, {most, most}, {most, least}, {-1 << 32, 0}, {1 << 32, 1 << 32}, {0, 1 << 32}, {1<<32 + 8, 1<<32 + 16}} {
		if state.Ready(setFrom(begin(), 0, 512), c[0], c[1]) {
			t.Errorf("Ready(%d, %d), which may not be", c[0], c[1])
		}
	}
}

func TestOfWrongStatesNothingIsReady(t *testing.T) {
	for i, s := range wrongStates() {
		for _, c := range [][2]int{{0, 0}, {512, 512}, {24, 25}, {0, 8}, {0, 512}} {
			if state.Ready(s, c[0], c[1]) {
				t.Errorf("Ready of wrong state %d", i)
			}
		}
		for _, c := range append(stores, outside...) {
			if k, ok := state.Load(s, c.low, c.high, c.n); k != unset || ok {
				t.Errorf("Load(%d, %d, %d) of wrong state %d = %v, %v", c.low, c.high, c.n, i, k, ok)
			}
		}
	}
}

func TestLoad(t *testing.T) {
	s := with(setFrom(begin(), 16, 41), func(s *api.Abs) { s.Saved[2], s.Saved[3] = place(3, bound.Size(1)), five })
	for _, c := range []struct {
		low, high, n int
		want         api.Known
		ok           bool
	}{
		{16, 16, 8, place(3, bound.Size(1)), true}, {24, 24, 8, five, true}, {32, 32, 8, all, true}, {33, 33, 8, all, true}, {34, 34, 8, unset, false},
		{17, 17, 8, all, true}, {20, 20, 8, all, true}, {16, 24, 8, all, true}, {16, 17, 8, all, true}, {15, 16, 8, unset, false}, {16, 33, 8, all, true}, {16, 34, 8, unset, false},
		{16, 16, 1, few, true}, {24, 24, 2, number(bound.Size(2)), true}, {24, 24, 4, number(bound.Size(4)), true}, {28, 28, 4, number(bound.Size(4)), true},
		{40, 40, 1, few, true}, {41, 41, 1, unset, false}, {15, 15, 1, unset, false}, {39, 39, 2, number(bound.Size(2)), true}, {40, 40, 2, unset, false},
		{16, 40, 1, few, true}, {15, 40, 1, unset, false}, {16, 41, 1, unset, false}, {16, 37, 4, number(bound.Size(4)), true}, {16, 38, 4, unset, false},
		{16, 16, 3, all, true}, {16, 16, 16, all, true}, {16, 16, 25, all, true}, {16, 16, 26, unset, false}, {24, 24, 7, all, true}, {24, 24, 9, all, true}, {23, 23, 1, few, true},
		{0, 0, 1, unset, false}, {0, 0, 8, unset, false}, {504, 504, 8, unset, false},
	} {
		if k, ok := state.Load(s, c.low, c.high, c.n); k != c.want || ok != c.ok {
			t.Errorf("Load(%d, %d, %d) = %v, %v; want %v, %v", c.low, c.high, c.n, k, ok, c.want, c.ok)
		}
	}
}

func TestLoadAtTheEnds(t *testing.T) {
	for _, c := range stores {
		want := number(bound.Size(c.n))
		if c.low == c.high && c.n == 8 && c.low%8 == 0 {
			want = five
		}
		if k, ok := state.Load(saved(), c.low, c.high, c.n); k != want || !ok {
			t.Errorf("Load(%d, %d, %d) = %v, %v; want %v", c.low, c.high, c.n, k, ok, want)
		}
	}
	for _, c := range outside {
		if k, ok := state.Load(saved(), c.low, c.high, c.n); k != unset || ok {
			t.Errorf("Load(%d, %d, %d), which may not be = %v, %v", c.low, c.high, c.n, k, ok)
		}
	}
}

// TestWhatIsStoredWholeIsLoaded: at each eight; but what is not known is a number of eight bytes then.
func TestWhatIsStoredWholeIsLoaded(t *testing.T) {
	for _, s := range []api.Abs{begin(), saved()} {
		for low := 0; low < 512; low += 8 {
			for _, k := range right {
				want := k
				if k == unset {
					want = all
				}
				if got, ok := state.Load(state.Store(s, low, low, 8, k), low, low, 8); got != want || !ok {
					t.Errorf("stored at %d: %v; loaded: %v, %v", low, k, got, ok)
				}
			}
		}
	}
}
