package code_test

import (
	"bytes"
	"math"
	"math/rand/v2"
	"reflect"
	"slices"
	"testing"

	"clevis/api"
	"clevis/code"
)

func TestEncode(t *testing.T) {
	for _, c := range []struct {
		l    []api.Ins
		want string
	}{
		{[]api.Ins{{}}, "\x00\x00\x00\x00\x00\x00\x00\x00"},
		{[]api.Ins{{Op: 0xb7, Imm: 5}}, "\xb7\x00\x00\x00\x05\x00\x00\x00"},
		{[]api.Ins{{Op: 0xb7, Imm: 5}, {Op: 0x95}}, "\xb7\x00\x00\x00\x05\x00\x00\x00" + "\x95\x00\x00\x00\x00\x00\x00\x00"},
		{[]api.Ins{{Op: 255, Dst: 15, Src: 15, Off: 1<<15 - 1, Imm: 1<<31 - 1}}, "\xff\xff\xff\x7f\xff\xff\xff\x7f"},
		{[]api.Ins{{Op: 1, Dst: 2, Src: 3, Off: -1 << 15, Imm: -1 << 31}}, "\x01\x32\x00\x80\x00\x00\x00\x80"},
		{[]api.Ins{{Off: -1}}, "\x00\x00\xff\xff\x00\x00\x00\x00"},
		{[]api.Ins{{Imm: -1}}, "\x00\x00\x00\x00\xff\xff\xff\xff"},
		{[]api.Ins{{Dst: 1}}, "\x00\x01\x00\x00\x00\x00\x00\x00"},
		{[]api.Ins{{Src: 1}}, "\x00\x10\x00\x00\x00\x00\x00\x00"},
		{[]api.Ins{{Op: 0x18}, {}}, "\x18\x00\x00\x00\x00\x00\x00\x00" + "\x00\x00\x00\x00\x00\x00\x00\x00"},
		{[]api.Ins{{Op: 0x18, Dst: 1, Src: 2, Off: -3, Imm: 0x04030201, Wide: 0x0807060504030201}, {}}, "\x18\x21\xfd\xff\x01\x02\x03\x04" + "\x00\x00\x00\x00\x05\x06\x07\x08"},
		{[]api.Ins{{Op: 0x18, Imm: -1, Wide: 1<<32 - 1}, {}}, "\x18\x00\x00\x00\xff\xff\xff\xff" + "\x00\x00\x00\x00\x00\x00\x00\x00"},
		{[]api.Ins{{Op: 0x18, Imm: -1, Wide: 1<<64 - 1}, {}}, "\x18\x00\x00\x00\xff\xff\xff\xff" + "\x00\x00\x00\x00\xff\xff\xff\xff"},
		{[]api.Ins{{Op: 0x18, Wide: 1 << 63}, {}, {}}, "\x18\x00\x00\x00\x00\x00\x00\x00" + "\x00\x00\x00\x00\x00\x00\x00\x80" + "\x00\x00\x00\x00\x00\x00\x00\x00"},
		{[]api.Ins{{}, {Op: 0x18, Imm: -1 << 31, Wide: 1 << 31}, {}, {Op: 0x18}, {}}, "\x00\x00\x00\x00\x00\x00\x00\x00" + "\x18\x00\x00\x00\x00\x00\x00\x80" + "\x00\x00\x00\x00\x00\x00\x00\x00" + "\x18\x00\x00\x00\x00\x00\x00\x00" + "\x00\x00\x00\x00\x00\x00\x00\x00"},
	} {
		if got, e := code.Encode(c.l); e != api.OK || string(got) != c.want {
			t.Errorf("Encode(%v) = %v, %d; want %v", c.l, got, e, []byte(c.want))
		}
	}
}

// A field, and from where to where it may be.
type field struct {
	name        string
	of          func(*api.Ins) *int
	least, most int
}

func fields() []field {
	return []field{
		{"Op", func(x *api.Ins) *int { return &x.Op }, 0, 255},
		{"Dst", func(x *api.Ins) *int { return &x.Dst }, 0, 15},
		{"Src", func(x *api.Ins) *int { return &x.Src }, 0, 15},
		{"Off", func(x *api.Ins) *int { return &x.Off }, -1 << 15, 1<<15 - 1},
		{"Imm", func(x *api.Ins) *int { return &x.Imm }, -1 << 31, 1<<31 - 1},
	}
}

// near are numbers at which a field ends, or would, if it were a longer or shorter one, with a sign or without.
func near() []int {
	var l []int
	for bits := range 63 {
		for d := -1; d <= 1; d++ {
			l = append(l, 1<<bits+d, -1<<bits+d)
		}
	}
	return append(l, math.MinInt, math.MaxInt, 1<<32+5, 1<<40+7, -1<<32+5, -1<<40+7)
}

func TestEncodeTakesEachFieldsNumbersAlone(t *testing.T) {
	for _, f := range fields() {
		for _, n := range near() {
			x := api.Ins{Op: 0xb7, Dst: 3, Src: 4, Off: 5, Imm: 6}
			*f.of(&x) = n
			if x.Op == 0x18 {
				continue
			}
			for _, l := range [][]api.Ins{{x}, {{}, x}, {x, {}}, {{Op: 0x18}, {}, x}} {
				want := api.ErrArg
				if f.least <= n && n <= f.most {
					want = api.OK
				}
				got, e := code.Encode(l)
				if e != want || e != api.OK && len(got) != 0 {
					t.Fatalf("%s is %d: Encode(%v) = %v, %d; want %d", f.name, n, l, got, e, want)
				}
				if again, g := code.Decode(got); e == api.OK && (g != api.OK || !reflect.DeepEqual(again, l)) {
					t.Fatalf("%s is %d: %v is read as %v", f.name, n, l, again)
				}
			}
		}
	}
}

func TestEncodeTakesAWideOnesFieldsAlone(t *testing.T) {
	for _, f := range fields()[1:4] {
		for _, n := range near() {
			x := api.Ins{Op: 0x18, Dst: 3, Src: 4, Off: 5, Imm: 6, Wide: 7<<32 + 6}
			*f.of(&x) = n
			want := api.ErrArg
			if f.least <= n && n <= f.most {
				want = api.OK
			}
			if got, e := code.Encode([]api.Ins{x, {}}); e != want || e != api.OK && len(got) != 0 {
				t.Fatalf("%s is %d: %v, %d; want %d", f.name, n, got, e, want)
			}
		}
	}
}

// refuses tells what Encode answers where it should refuse.
func refuses(t *testing.T, what string, l []api.Ins) {
	t.Helper()
	if got, e := code.Encode(l); len(got) != 0 || e != api.ErrArg {
		t.Errorf("%s: %d bytes, %d", what, len(got), e)
	}
}

func TestEncodeTakesSoManySlots(t *testing.T) {
	refuses(t, "nil", nil)
	refuses(t, "none", []api.Ins{})
	refuses(t, "too many", make([]api.Ins, 4097))
	refuses(t, "far too many", make([]api.Ins, 100000))
	for _, n := range []int{1, 2, 4095, 4096} {
		if got, e := code.Encode(make([]api.Ins, n)); e != api.OK || !bytes.Equal(got, make([]byte, 8*n)) {
			t.Errorf("%d: %d bytes, %d", n, len(got), e)
		}
	}
	l := make([]api.Ins, 4096)
	l[4095].Op = 256
	refuses(t, "a wrong one at the end", l)
	l[4095].Op = 0x18
	refuses(t, "a wide one at the end", l)
	l[4094], l[4095] = api.Ins{Op: 0x18}, api.Ins{}
	if got, e := code.Encode(l); e != api.OK || len(got) != 8*4096 {
		t.Errorf("a wide one and a hole at the end: %d bytes, %d", len(got), e)
	}
}

func TestEncodeRefusesWide(t *testing.T) {
	for _, wide := range []uint64{1, 5, 1 << 32, 1 << 63, 1<<64 - 1} {
		for _, op := range []int{0, 0x17, 0x19, 0xb7, 0x61, 0x95, 0x118} {
			refuses(t, "Wide of others", []api.Ins{{Op: op, Wide: wide}})
			refuses(t, "Wide of others, as Imm", []api.Ins{{Op: op, Imm: int(int32(wide)), Wide: wide}})
			refuses(t, "Wide of others, with a hole", []api.Ins{{Op: op, Imm: int(int32(wide)), Wide: wide}, {}})
		}
	}
	for _, c := range []struct {
		imm  int
		wide uint64
	}{
		{5, 0}, {0, 5}, {-1, 0}, {0, 1<<32 - 1}, {1<<32 - 1, 1<<32 - 1}, {1 << 31, 1 << 31}, {1 << 31, 1<<64 - 1<<31},
		{1, 1 << 32}, {5, 6}, {-5, 5}, {1 << 32, 1 << 32}, {1<<32 + 5, 5}, {1<<32 + 5, 1<<32 + 5}, {math.MinInt, 0}, {math.MaxInt, 1<<64 - 1},
	} {
		refuses(t, "Imm is not Wide's lowest bits", []api.Ins{{Op: 0x18, Imm: c.imm, Wide: c.wide}, {}})
	}
}

func TestEncodeRefusesHoles(t *testing.T) {
	wide := api.Ins{Op: 0x18, Imm: 7, Wide: 9<<32 + 7}
	refuses(t, "no hole", []api.Ins{wide})
	refuses(t, "no hole of nought", []api.Ins{{Op: 0x18}})
	refuses(t, "none behind others", []api.Ins{{}, wide, {}, wide})
	for _, second := range []api.Ins{
		{Op: 1}, {Op: 0x95}, {Op: 256}, {Op: -1}, {Dst: 1}, {Dst: 16}, {Src: 1}, {Src: -1}, {Off: 1}, {Off: -1}, {Imm: 1}, {Imm: 9}, {Imm: 1 << 32},
		{Wide: 1}, {Wide: 9}, {Wide: 9 << 32}, {Wide: 9<<32 + 7}, {Op: 0x18}, wide,
	} {
		refuses(t, "a hole that is none", []api.Ins{wide, second})
		refuses(t, "a hole that is none, and others", []api.Ins{{Op: 5}, wide, second, {}, {}})
	}
	refuses(t, "nothing but wide ones", slices.Repeat([]api.Ins{wide}, 10))
}

func TestEncodeTakesTheLengthAlone(t *testing.T) {
	refuses(t, "the hole is behind the end", []api.Ins{{Op: 0x18}, {}}[:1])
}

func TestEncodeLeavesItsList(t *testing.T) {
	r := chance()
	for range 200 {
		l := someIns(r)
		before := slices.Clone(l)
		one, e := code.Encode(l)
		if !slices.Equal(l, before) {
			t.Fatal("Encode changed its list")
		}
		clear(l)
		other, f := code.Encode(before)
		if e != f || !bytes.Equal(one, other) {
			t.Fatal("what Encode answered changed with its list")
		}
		for i := range one {
			one[i]++
		}
		if again, _ := code.Encode(before); !bytes.Equal(again, other) {
			t.Fatal("two answers share their bytes")
		}
	}
}

// someIns answers a list that is right, or of which one field has been spoilt.
func someIns(r *rand.Rand) []api.Ins {
	for {
		l, e := modelDecode(someBytes(r, 1+r.IntN(12)))
		if e != api.OK {
			continue
		}
		x := &l[r.IntN(len(l))]
		numbers := near()
		n := numbers[r.IntN(len(numbers))]
		switch f := fields(); r.IntN(4) {
		case 0:
			*f[r.IntN(len(f))].of(x) = n
		case 1:
			x.Wide = uint64(n)
		case 2:
			l = l[:len(l)-1]
		}
		return l
	}
}

func TestEncodeAgainstTheModel(t *testing.T) {
	r := chance()
	right, wrong := 0, 0
	for range 20000 {
		l := someIns(r)
		want, f := modelEncode(l)
		got, e := code.Encode(l)
		if e != f || !bytes.Equal(got, want) {
			t.Fatalf("Encode(%v) = %v, %d; want %v, %d", l, got, e, want, f)
		}
		if e == api.OK {
			right++
		} else {
			wrong++
		}
	}
	if right < 2000 || wrong < 2000 {
		t.Errorf("%d right ones and %d wrong ones are too few of one kind", right, wrong)
	}
}

func TestDecodeOfEncodeIsTheList(t *testing.T) {
	r := chance()
	found := 0
	for range 5000 {
		l := someIns(r)
		b, e := code.Encode(l)
		if e != api.OK {
			continue
		}
		found++
		if got, e := code.Decode(b); e != api.OK || !reflect.DeepEqual(got, l) {
			t.Fatalf("%v is read as %v, %d", l, got, e)
		}
	}
	if found < 500 {
		t.Errorf("%d lists are too few", found)
	}
}

func TestEncodeOfDecodeIsTheBytes(t *testing.T) {
	r := chance()
	found := 0
	for range 5000 {
		b := someBytes(r, 1+r.IntN(12))
		l, e := code.Decode(b)
		if e != api.OK {
			continue
		}
		found++
		if got, e := code.Encode(l); e != api.OK || !bytes.Equal(got, b) {
			t.Fatalf("%v is written as %v, %d", b, got, e)
		}
	}
	if found < 500 {
		t.Errorf("%d programs are too few", found)
	}
}
