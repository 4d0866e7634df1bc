package code_test

import (
	"bytes"
	"reflect"
	"testing"

	"clevis/api"
	"clevis/code"
)

func TestDecodeOneSlot(t *testing.T) {
	for _, c := range []struct {
		b    [8]byte
		want api.Ins
	}{
		{[8]byte{}, api.Ins{}},
		{[8]byte{0xb7, 0, 0, 0, 5, 0, 0, 0}, api.Ins{Op: 0xb7, Imm: 5}},
		{[8]byte{0xff}, api.Ins{Op: 255}},
		{[8]byte{0x80}, api.Ins{Op: 128}},
		{[8]byte{0, 0x01}, api.Ins{Dst: 1}},
		{[8]byte{0, 0x10}, api.Ins{Src: 1}},
		{[8]byte{0, 0x0f}, api.Ins{Dst: 15}},
		{[8]byte{0, 0xf0}, api.Ins{Src: 15}},
		{[8]byte{0, 0xa9}, api.Ins{Dst: 9, Src: 10}},
		{[8]byte{0, 0, 1}, api.Ins{Off: 1}},
		{[8]byte{0, 0, 0, 1}, api.Ins{Off: 256}},
		{[8]byte{0, 0, 0xff, 0x7f}, api.Ins{Off: 1<<15 - 1}},
		{[8]byte{0, 0, 0x00, 0x80}, api.Ins{Off: -1 << 15}},
		{[8]byte{0, 0, 0xff, 0xff}, api.Ins{Off: -1}},
		{[8]byte{0, 0, 0x80, 0x00}, api.Ins{Off: 128}},
		{[8]byte{0, 0, 0, 0, 1, 2, 3, 4}, api.Ins{Imm: 0x04030201}},
		{[8]byte{0, 0, 0, 0, 0xff, 0xff, 0xff, 0x7f}, api.Ins{Imm: 1<<31 - 1}},
		{[8]byte{0, 0, 0, 0, 0x00, 0x00, 0x00, 0x80}, api.Ins{Imm: -1 << 31}},
		{[8]byte{0, 0, 0, 0, 0xff, 0xff, 0xff, 0xff}, api.Ins{Imm: -1}},
		{[8]byte{0, 0, 0, 0, 0x00, 0x80, 0x00, 0x00}, api.Ins{Imm: 1 << 15}},
		{[8]byte{0, 0, 0, 0, 0x18, 0x18, 0x18, 0x18}, api.Ins{Imm: 0x18181818}},
		{[8]byte{0x61, 0xf7, 0xfe, 0xff, 0xfd, 0xff, 0xff, 0xff}, api.Ins{Op: 0x61, Dst: 7, Src: 15, Off: -2, Imm: -3}},
		{[8]byte{0x00, 0x18, 0x18, 0x18, 0, 0, 0, 0}, api.Ins{Dst: 8, Src: 1, Off: 0x1818}},
	} {
		if got, e := code.Decode(c.b[:]); e != api.OK || !reflect.DeepEqual(got, []api.Ins{c.want}) {
			t.Errorf("Decode(%v) = %v, %d; want %v", c.b, got, e, c.want)
		}
	}
}

// TestDecodeEachOp: 0x18 alone has two slots.
func TestDecodeEachOp(t *testing.T) {
	for op := range 256 {
		got, e := code.Decode([]byte{byte(op), 0x21, 3, 0, 4, 0, 0, 0})
		if op == 0x18 {
			if len(got) != 0 || e != api.ErrSlot {
				t.Errorf("a wide one alone: %v, %d", got, e)
			}
		} else if want := (api.Ins{Op: op, Dst: 1, Src: 2, Off: 3, Imm: 4}); e != api.OK || !reflect.DeepEqual(got, []api.Ins{want}) {
			t.Errorf("op %#x: %v, %d", op, got, e)
		}
	}
}

func TestDecodeWide(t *testing.T) {
	for _, c := range []struct {
		b    string
		want []api.Ins
	}{
		{"\x18\x00\x00\x00\x00\x00\x00\x00" + "\x00\x00\x00\x00\x00\x00\x00\x00", []api.Ins{{Op: 0x18}, {}}},
		{"\x18\x01\x00\x00\x01\x02\x03\x04" + "\x00\x00\x00\x00\x05\x06\x07\x08", []api.Ins{{Op: 0x18, Dst: 1, Imm: 0x04030201, Wide: 0x0807060504030201}, {}}},
		{"\x18\x13\xfe\xff\x02\x00\x00\x00" + "\x00\x00\x00\x00\x00\x00\x00\x00", []api.Ins{{Op: 0x18, Dst: 3, Src: 1, Off: -2, Imm: 2, Wide: 2}, {}}},
		{"\x18\x00\x00\x00\xff\xff\xff\xff" + "\x00\x00\x00\x00\x00\x00\x00\x00", []api.Ins{{Op: 0x18, Imm: -1, Wide: 1<<32 - 1}, {}}},
		{"\x18\x00\x00\x00\x00\x00\x00\x80" + "\x00\x00\x00\x00\x00\x00\x00\x80", []api.Ins{{Op: 0x18, Imm: -1 << 31, Wide: 1<<63 + 1<<31}, {}}},
		{"\x18\x00\x00\x00\x00\x00\x00\x00" + "\x00\x00\x00\x00\xff\xff\xff\xff", []api.Ins{{Op: 0x18, Wide: 1<<64 - 1<<32}, {}}},
		{"\x18\x00\x00\x00\xff\xff\xff\x7f" + "\x00\x00\x00\x00\x01\x00\x00\x00", []api.Ins{{Op: 0x18, Imm: 1<<31 - 1, Wide: 3<<31 - 1}, {}}},
		{"\x18\x00\x00\x00\x00\x00\x00\x00" + "\x00\x00\x00\x00\x18\x00\x00\x00" + "\x95\x00\x00\x00\x00\x00\x00\x00", []api.Ins{{Op: 0x18, Wide: 0x18 << 32}, {}, {Op: 0x95}}},
		{"\x95\x00\x00\x00\x00\x00\x00\x00" + "\x18\x00\x00\x00\x07\x00\x00\x00" + "\x00\x00\x00\x00\x09\x00\x00\x00", []api.Ins{{Op: 0x95}, {Op: 0x18, Imm: 7, Wide: 9<<32 + 7}, {}}},
		{
			"\x18\x00\x00\x00\x01\x00\x00\x00" + "\x00\x00\x00\x00\x02\x00\x00\x00" + "\x18\x00\x00\x00\x03\x00\x00\x00" + "\x00\x00\x00\x00\x04\x00\x00\x00",
			[]api.Ins{{Op: 0x18, Imm: 1, Wide: 2<<32 + 1}, {}, {Op: 0x18, Imm: 3, Wide: 4<<32 + 3}, {}},
		},
		{
			"\x18\x00\x00\x00\x01\x00\x00\x00" + "\x00\x00\x00\x00\x02\x00\x00\x00" + "\x00\x05\x00\x00\x03\x00\x00\x00",
			[]api.Ins{{Op: 0x18, Imm: 1, Wide: 2<<32 + 1}, {}, {Dst: 5, Imm: 3}},
		},
	} {
		if got, e := code.Decode([]byte(c.b)); e != api.OK || !reflect.DeepEqual(got, c.want) {
			t.Errorf("Decode(%v) = %v, %d; want %v", []byte(c.b), got, e, c.want)
		}
	}
}

// refused tells what Decode answers where it should refuse.
func refused(t *testing.T, what string, b []byte, want api.Errno) {
	t.Helper()
	if got, e := code.Decode(b); len(got) != 0 || e != want {
		t.Errorf("%s: %d instructions, %d; want %d", what, len(got), e, want)
	}
}

func TestDecodeTakesWholeSlotsAlone(t *testing.T) {
	refused(t, "nil", nil, api.ErrSlot)
	refused(t, "no bytes", []byte{}, api.ErrSlot)
	for n := 1; n < 100; n++ {
		if n%8 != 0 {
			refused(t, "no whole slots", make([]byte, n), api.ErrSlot)
		} else if got, e := code.Decode(make([]byte, n)); e != api.OK || !reflect.DeepEqual(got, make([]api.Ins, n/8)) {
			t.Errorf("%d bytes: %v, %d", n, got, e)
		}
	}
}

func TestDecodeTakesSoManySlots(t *testing.T) {
	for _, slots := range []int{4095, 4096} {
		if got, e := code.Decode(make([]byte, 8*slots)); e != api.OK || !reflect.DeepEqual(got, make([]api.Ins, slots)) {
			t.Errorf("%d slots: %d, %d", slots, len(got), e)
		}
	}
	for n := 1; n < 8; n++ {
		refused(t, "the most, and some bytes", make([]byte, 8*4096+n), api.ErrSlot)
		refused(t, "too many, and some bytes", make([]byte, 8*4097+n), api.ErrSlot)
	}
	refused(t, "too many", make([]byte, 8*4097), api.ErrLong)
	refused(t, "far too many", make([]byte, 1<<20), api.ErrLong)
	for _, slots := range []int{4096, 4097, 5000} {
		want := api.ErrSlot
		if slots > 4096 {
			want = api.ErrLong
		}
		refused(t, "many wide ones without holes", bytes.Repeat([]byte{0x18}, 8*slots), want)
	}
}

func TestDecodeTakesWideOnesUpToTheEnd(t *testing.T) {
	pair := append([]byte{0x18, 0, 0, 0, 1, 0, 0, 0}, 0, 0, 0, 0, 2, 0, 0, 0)
	all := bytes.Repeat(pair, 2048)
	got, e := code.Decode(all)
	if e != api.OK || len(got) != 4096 {
		t.Fatalf("%d, %d", len(got), e)
	}
	for i, x := range got {
		want := api.Ins{}
		if i%2 == 0 {
			want = api.Ins{Op: 0x18, Imm: 1, Wide: 2<<32 + 1}
		}
		if x != want {
			t.Errorf("at %d: %v", i, x)
		}
	}
	refused(t, "the last one has no second slot", all[:8*4095], api.ErrSlot)
	refused(t, "the last one has no second slot", append(make([]byte, 8*4095), pair[:8]...), api.ErrSlot)
}

func TestDecodeRefusesSecondSlots(t *testing.T) {
	wide := []byte{0x18, 0x12, 3, 4, 5, 6, 7, 8}
	refused(t, "no second slot", wide, api.ErrSlot)
	refused(t, "none behind others", append(make([]byte, 8), wide...), api.ErrSlot)
	for at := range 4 { // op, registers, offset
		for n := 1; n < 256; n++ {
			second := []byte{0, 0, 0, 0, 9, 9, 9, 9}
			second[at] = byte(n)
			refused(t, "a second slot that may not be", append(bytes.Clone(wide), second...), api.ErrSlot)
		}
	}
	refused(t, "two wide ones", append(bytes.Clone(wide), wide...), api.ErrSlot)
	long := append(append(bytes.Clone(wide), wide...), make([]byte, 80)...)
	refused(t, "two wide ones, and holes", long, api.ErrSlot)
	refused(t, "the second of two", append(append(bytes.Clone(wide), make([]byte, 8)...), long...), api.ErrSlot)
}

func TestDecodeTakesTheLengthAlone(t *testing.T) {
	roomy := append([]byte{0x18, 0, 0, 0, 1, 0, 0, 0}, make([]byte, 8)...)
	refused(t, "the second slot is behind the end", roomy[:8], api.ErrSlot)
	refused(t, "half a slot is behind the end", roomy[:12], api.ErrSlot)
}

func TestDecodeLeavesItsBytes(t *testing.T) {
	r := chance()
	for range 200 {
		b := someBytes(r, 1+r.IntN(9))
		before := bytes.Clone(b)
		one, e := code.Decode(b)
		if !bytes.Equal(b, before) {
			t.Fatal("Decode changed its bytes")
		}
		for i := range b {
			b[i]++
		}
		other, f := code.Decode(before)
		if e != f || !reflect.DeepEqual(one, other) {
			t.Fatal("what Decode answered changed with its bytes")
		}
		for i := range one {
			one[i] = api.Ins{Op: 999}
		}
		if again, _ := code.Decode(before); !reflect.DeepEqual(again, other) {
			t.Fatal("two answers share their instructions")
		}
	}
}

func TestDecodeAgainstTheModel(t *testing.T) {
	r := chance()
	right, wrong := 0, 0
	for range 20000 {
		b := someBytes(r, 1+r.IntN(12))
		b = b[:len(b)-r.IntN(2)*r.IntN(2)*r.IntN(8)]
		want, f := modelDecode(b)
		got, e := code.Decode(b)
		if e != f || len(got) != len(want) || e == api.OK && !reflect.DeepEqual(got, want) {
			t.Fatalf("Decode(%v) = %v, %d; want %v, %d", b, got, e, want, f)
		}
		if e == api.OK {
			right++
		} else {
			wrong++
		}
	}
	if right < 2000 || wrong < 2000 {
		t.Errorf("%d right ones and %d wrong ones are too few of one kind", right, wrong)
	}
}
