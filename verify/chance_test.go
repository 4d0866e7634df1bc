package verify_test

import (
	"math/rand"
	"testing"

	"clevis/api"
	"clevis/legal"
	"clevis/verify"
)

// pick answers an element of a list.
func pick[T any](chance *rand.Rand, l []T) T { return l[chance.Intn(len(l))] }

var (
	operations = []int{0x00, 0x00, 0x00, 0x10, 0x20, 0x40, 0x50, 0x50, 0x60, 0x70, 0xa0, 0xb0, 0xb0, 0xc0}
	conditions = []int{0x10, 0x20, 0x30, 0x40, 0x50, 0x60, 0x70, 0xa0, 0xb0, 0xc0, 0xd0}
)

// begins answers instructions behind which there is something to do with: numbers in r0 and r2 to r5, addresses in r6 to r9.
func begins(chance *rand.Rand) []api.Ins {
	p := row(copied(6, 1), wideMap(7, chance.Intn(3)), copied(8, 10), add(8, -8*(1+chance.Intn(3))), wideMap(9, 1))
	for _, r := range []int{0, 2, 3, 4, 5} {
		x := mov(r, chance.Intn(4))
		if chance.Intn(3) == 0 {
			x = ins(pick(chance, []int{0x61, 0x71, 0x71, 0x79}), r, 6, chance.Intn(9), 0)
		}
		p = append(p, x)
	}
	for i := range chance.Intn(4) {
		p = append(p, putNumber(10, -8*(i+1), i))
	}
	return p
}

// number answers a register in which there mostly is a number.
func number(chance *rand.Rand) int { return pick(chance, []int{0, 0, 2, 2, 3, 4}) }

// someIns answers instructions, of which the jumps lead nowhere yet.
func someIns(chance *rand.Rand) []api.Ins {
	d := number(chance)
	switch chance.Intn(14) {
	case 0, 1, 2, 3:
		op := pick(chance, operations) + pick(chance, []int{0x07, 0x07, 0x04, 0x0f})
		if op&8 != 0 {
			return row(ins(op, d, number(chance), 0, 0))
		}
		return row(ins(op, d, 0, 0, pick(chance, []int{0, 1, 1, 1, 2, 3, 7})))
	case 4, 5, 6:
		op := pick(chance, conditions) + pick(chance, []int{0x05, 0x05, 0x06, 0x0d})
		if op&8 != 0 {
			return row(ins(op, d, number(chance), 0, 0))
		}
		return row(ins(op, d, 0, 0, pick(chance, []int{0, 1, 4, 9, 30, 100})))
	case 7:
		return row(ja(0))
	case 8, 9:
		return row(ins(pick(chance, []int{0x71, 0x71, 0x69, 0x79}), d, pick(chance, []int{6, 7, 8, 9}), chance.Intn(12), 0))
	case 10:
		return row(pick(chance, []api.Ins{putByte(8, chance.Intn(8), d), putEight(8, 0, d), putEight(7, chance.Intn(12), d), putByte(10, -1-chance.Intn(20), d), putNumber(10, -8, chance.Intn(3))}))
	case 11: // an address with a bounded number
		return row(and(d, 7), copied(5, pick(chance, []int{7, 9})), ins(0x0f, 5, d, 0, 0), byteAt(number(chance), 5, chance.Intn(12)))
	case 12:
		return helped(chance)
	}
	return pick(chance, [][]api.Ins{row(exit), row(mov(0, 1), exit), wide(d, chance.Uint64()), row(copied(5, 6)), row(ins(0x0f, 8, d, 0, 0)), row(call(1))})
}

// helped answers a call, and what it needs.
func helped(chance *rand.Rand) []api.Ins {
	again := row(mov(2, 2), mov(3, 3), mov(4, 4), mov(5, 5))
	switch h := 1 + chance.Intn(5); h {
	case 3, 4:
		return row(copied(1, pick(chance, []int{7, 8})), mov(2, 1+chance.Intn(8)), call(h), again)
	case 1:
		return row(call(1), again)
	default:
		return row(mov(1, chance.Intn(9)), call(h), again)
	}
}

// programBy answers a program that may be: its jumps lead to any instruction, most of them not far off.
func programBy(chance *rand.Rand, length int) []api.Ins {
	p := begins(chance)
	first := len(p)
	for len(p) < first+length {
		p = append(p, someIns(chance)...)
	}
	p = row(p, mov(0, 0), exit)
	for i := first; i < len(p); i++ {
		if _, _, ok := legal.Jump(p[i].Op); ok || p[i] == ja(0) {
			to := first + chance.Intn(len(p)-first)
			if chance.Intn(2) == 0 {
				to = min(len(p)-1, i+1+chance.Intn(4))
			}
			if p[to] == (api.Ins{}) { // a hole
				to--
			}
			p[i].Off = to - i - 1
		}
	}
	return p
}

// TestAgainstTheModel asks of programs by chance, with budgets of all sizes.
func TestAgainstTheModel(t *testing.T) {
	chance := rand.New(rand.NewSource(13))
	codes, long := map[api.Errno]int{}, map[api.Errno]int{}
	for range 12000 {
		p := programBy(chance, 1+chance.Intn(25))
		budget := pick(chance, []int{1, 5, 20, 50, 100, 200, 400})
		got, want := verify.Verify(sample, p, budget), modelVerify(sample, p, budget)
		if !same(got, want) {
			t.Fatalf("Verify(%v, %d) = %v; want %v", p, budget, got, want)
		}
		if codes[got.Code]++; got.Visits > len(p) {
			long[got.Code]++
		}
	}
	for _, e := range []api.Errno{api.OK, api.ErrUnsafe, api.ErrVisits, api.ErrLoop} {
		if codes[e] < 500 || long[e] < 20 {
			t.Errorf("%d verdicts of %d, %d of them with more visits than slots", codes[e], e, long[e])
		}
	}
	if codes[api.ErrForm] > 0 || codes[api.ErrArg] > 0 {
		t.Errorf("programs that may not be: %v", codes)
	}
}

// roundsBy answers a program of rounds within rounds, of which the inner ones know little or much.
func roundsBy(chance *rand.Rand) []api.Ins {
	p := row(begins(chance), mov(0, 0))
	outer := len(p)
	p = row(p, mov(2, 0))
	inner := len(p)
	for range 1 + chance.Intn(6) {
		x := someIns(chance)
		if _, _, ok := legal.Jump(x[0].Op); ok {
			x[0].Off = chance.Intn(2)
			x = row(x, add(3, 1), add(4, 1))
		} else if x[0] == ja(0) || x[len(x)-1] == exit || x[0].Op == 0x85 || len(x) > 4 {
			continue
		}
		p = append(p, x...)
	}
	p = row(p, add(2, 1))
	p = row(p, below(2, 1+chance.Intn(30), inner-len(p)-1), add(0, 1))
	return row(p, below(0, 1+chance.Intn(30), outer-len(p)-1), mov(0, 0), exit)
}

// TestManyVisitsAgainstTheModel asks of programs of which instructions are visited often, with states that differ here or there.
func TestManyVisitsAgainstTheModel(t *testing.T) {
	chance := rand.New(rand.NewSource(14))
	codes, most := map[api.Errno]int{}, 0
	for range 250 {
		p := roundsBy(chance)
		got, want := verify.Verify(sample, p, 3000), modelVerify(sample, p, 3000)
		if !same(got, want) {
			t.Fatalf("Verify(%v) = %v; want %v", p, got, want)
		}
		codes[got.Code]++
		if got.Code == api.OK {
			most = max(most, got.Visits)
		}
	}
	for _, e := range []api.Errno{api.OK, api.ErrUnsafe, api.ErrVisits, api.ErrLoop} {
		if codes[e] < 10 {
			t.Errorf("%d verdicts of %d", codes[e], e)
		}
	}
	if most < 2000 {
		t.Errorf("none was accepted with more than %d visits", most)
	}
}

// TestMoreBudget: the verdict stays, but of ErrVisits; and just as many visits are enough as there were.
func TestMoreBudget(t *testing.T) {
	chance := rand.New(rand.NewSource(15))
	for range 2000 {
		p := programBy(chance, 1+chance.Intn(25))
		v := verify.Verify(sample, p, 300)
		if v.Code == api.ErrVisits {
			if v.Visits != 300 {
				t.Fatalf("Verify(%v, 300) = %v", p, v)
			}
			if more := verify.Verify(sample, p, 400); more.Visits <= 300 && more.Code != api.ErrLoop {
				t.Fatalf("Verify(%v, 400) = %v; with 300 %v", p, more, v)
			}
			continue
		}
		for _, budget := range []int{v.Visits, v.Visits + 1, 301, 1000000} {
			if more := verify.Verify(sample, p, budget); !same(more, v) {
				t.Fatalf("Verify(%v, %d) = %v; with 300 %v", p, budget, more, v)
			}
		}
		if v.Visits == 1 {
			continue
		}
		if less := verify.Verify(sample, p, v.Visits-1); less.Code != api.ErrVisits || less.Visits != v.Visits-1 {
			t.Fatalf("Verify(%v, %d) = %v; with 300 %v", p, v.Visits-1, less, v)
		}
	}
}
