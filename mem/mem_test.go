package mem

import (
	"bytes"
	"math"
	"reflect"
	"testing"

	"clevis/api"
)

// sample answers a layout, and a memory of it in which no two bytes near one another are alike.
func sample() (api.Layout, api.Memory) {
	l := api.Layout{
		Context: api.Area{Size: 24, Write: true},
		Maps:    []api.Area{{Size: 16}, {Size: 32, Write: true}},
	}
	m := memory(24, 512, 16, 32)
	for i, b := range m {
		for j := range b {
			b[j] = byte(64*i + 3*j + 1)
		}
	}
	return l, m
}

func clone(m api.Memory) api.Memory {
	var c api.Memory
	for _, b := range m {
		c = append(c, bytes.Clone(b))
	}
	return c
}

func same(a, b api.Memory) bool {
	if len(a) != len(b) {
		return false
	}
	for i := range a {
		if !bytes.Equal(a[i], b[i]) {
			return false
		}
	}
	return true
}

// offsets are where an access begins, right and wrong.
var offsets = []int{-8, -1, 0, 1, 5, 8, 9, 12, 13, 15, 16, 17, 20, 23, 24, 28, 31, 32, 504, 508, 511, 512, 4096, 1 << 31, 1<<32 - 1}

// counts are numbers of bytes, right and wrong.
var counts = []int{math.MinInt, -1, 0, 1, 2, 3, 4, 5, 6, 7, 8, 9, 16, 24, 32, 512, 4096, 4097, 1<<32 + 1, math.MaxInt}

func isSize(n int) bool { return n == 1 || n == 2 || n == 4 || n == 8 }

func TestLoad(t *testing.T) {
	l, m := sample()
	before := clone(m)
	for region := range 7 {
		for _, off := range offsets {
			for _, n := range counts {
				a := Address(region, off)
				e, want := wanted(l, a, n, false), uint64(0)
				if !isSize(n) {
					e = api.ErrArg
				}
				if e == api.OK {
					for i := n - 1; i >= 0; i-- {
						want = want*256 + uint64(m[region-1][off+i])
					}
				}
				if got, err := Load(l, m, a, n); got != want || err != e {
					t.Errorf("Load(%#x, %d) = %#x, %d; want %#x, %d", a, n, got, err, want, e)
				}
			}
		}
	}
	if !same(m, before) {
		t.Error("Load changed the memory")
	}
}

func TestBytes(t *testing.T) {
	l, m := sample()
	before := clone(m)
	for region := range 7 {
		for _, off := range offsets {
			for _, n := range counts {
				a := Address(region, off)
				e, want := wanted(l, a, n, false), []byte(nil)
				if e == api.OK {
					want = m[region-1][off : off+n]
				}
				if got, err := Bytes(l, m, a, n); !bytes.Equal(got, want) || err != e {
					t.Errorf("Bytes(%#x, %d) = %v, %d; want %v, %d", a, n, got, err, want, e)
				}
			}
		}
	}
	b, _ := Bytes(l, m, Address(4, 3), 9)
	for i := range b {
		b[i] = 0
	}
	_ = append(b, 0, 0, 0)
	if !same(m, before) {
		t.Error("what Bytes answers is the memory's own")
	}
}

func TestStore(t *testing.T) {
	l, m := sample()
	before := clone(m)
	const x = 0xf8e7d6c5b4a39281
	for region := range 7 {
		for _, off := range offsets {
			for _, n := range counts {
				a := Address(region, off)
				e, want := wanted(l, a, n, true), api.Memory(nil)
				if !isSize(n) {
					e = api.ErrArg
				}
				if e == api.OK {
					want = clone(m)
					copy(want[region-1][off:], []byte{0x81, 0x92, 0xa3, 0xb4, 0xc5, 0xd6, 0xe7, 0xf8}[:n])
				}
				got, err := Store(l, m, a, n, x)
				if !same(got, want) || err != e {
					t.Errorf("Store(%#x, %d): %d; want %d; or wrong bytes", a, n, err, e)
				}
				if !same(m, before) {
					t.Fatal("Store changed the memory that was handed in")
				}
			}
		}
	}
}

func TestFill(t *testing.T) {
	l, m := sample()
	before := clone(m)
	for region := range 7 {
		for _, off := range offsets {
			for _, n := range []int{0, 1, 2, 3, 7, 8, 16, 24, 32, 33, 512, 513, 4096, 4097} {
				b := bytes.Repeat([]byte{250, 251, 252}, n)[:n]
				a := Address(region, off)
				e, want := wanted(l, a, n, true), api.Memory(nil)
				if e == api.OK {
					want = clone(m)
					copy(want[region-1][off:], b)
				}
				got, err := Fill(l, m, a, b)
				if !same(got, want) || err != e {
					t.Errorf("Fill(%#x) of %d: %d; want %d; or wrong bytes", a, n, err, e)
				}
				if !same(m, before) || !bytes.Equal(b, bytes.Repeat([]byte{250, 251, 252}, n)[:n]) {
					t.Fatal("Fill changed what was handed in")
				}
			}
		}
	}
	if got, e := Fill(l, m, Address(4, 0), nil); len(got) != 0 || e != api.ErrArg {
		t.Error("Fill of nil:", e)
	}
}

func TestFillTakesTheLengthAlone(t *testing.T) {
	l, m := sample()
	got, e := Fill(l, m, Address(4, 30), []byte{9, 8, 7, 6}[:2])
	want := clone(m)
	want[3][30], want[3][31] = 9, 8
	if e != api.OK || !same(got, want) {
		t.Error("the room behind the end was taken:", e)
	}
}

// asked are the calls that take a memory, of an access that is right in itself.
func asked(l api.Layout, m api.Memory, a uint64, n int) []api.Errno {
	_, load := Load(l, m, a, n)
	_, store := Store(l, m, a, n, 5)
	_, read := Bytes(l, m, a, n)
	_, fill := Fill(l, m, a, make([]byte, max(0, min(n, 5000))))
	return []api.Errno{load, store, read, fill}
}

func TestMemoryOfAnotherLayout(t *testing.T) {
	l, _ := sample()
	refused := []api.Errno{api.ErrArg, api.ErrArg, api.ErrArg, api.ErrArg}
	for _, m := range []api.Memory{
		nil, memory(24, 512, 16), memory(24, 512, 16, 31), memory(24, 512, 16, 33), memory(24, 512, 16, 32, 1), memory(23, 512, 16, 32),
		memory(24, 511, 16, 32), memory(32, 512, 16, 24),
	} {
		for _, a := range []uint64{Address(1, 0), Address(2, 0), Address(4, 0), Address(3, 0), Address(3, 16), Address(9, 0)} {
			if got := asked(l, m, a, 4); !reflect.DeepEqual(got, refused) {
				t.Errorf("of %d areas, at %#x: %v", len(m), a, got)
			}
		}
	}
	for _, l := range wrong {
		if got := asked(l, memory(max(0, min(l.Context.Size, 5000)), 512), Address(2, 0), 4); !reflect.DeepEqual(got, refused) {
			t.Errorf("of %v: %v", l, got)
		}
	}
	m := memory(0, 512)
	if got := asked(api.Layout{}, m, Address(2, 0), 4); !reflect.DeepEqual(got, make([]api.Errno, 4)) {
		t.Error("of the least layout:", got)
	}
	if got, e := Load(l, m, Address(2, 0), 4); got != 0 || e != api.ErrArg {
		t.Error("Load:", got, e)
	}
	if got, e := Bytes(l, m, Address(2, 0), 4); len(got) != 0 || e != api.ErrArg {
		t.Error("Bytes:", got, e)
	}
	if got, e := Store(l, m, Address(2, 0), 4, 7); len(got) != 0 || e != api.ErrArg {
		t.Error("Store:", e)
	}
	if got, e := Fill(l, m, Address(2, 0), []byte{1}); len(got) != 0 || e != api.ErrArg {
		t.Error("Fill:", e)
	}
}

// spoil writes on all that a memory holds, and behind its ends.
func spoil(m api.Memory) {
	for _, b := range m {
		for i := range b {
			b[i] = 99
		}
		_ = append(b, 98, 98, 98, 98)
	}
}

func TestAnswersAreNewMemory(t *testing.T) {
	l, m := sample()
	before := clone(m)
	b := []byte{1, 2, 3}
	stored, _ := Store(l, m, Address(4, 0), 8, 5)
	filled, _ := Fill(l, m, Address(1, 0), b)
	want := clone(filled)
	spoil(stored)
	if !same(m, before) || !same(filled, want) {
		t.Error("what Store answers shares bytes")
	}
	spoil(filled)
	if !same(m, before) || !bytes.Equal(b, []byte{1, 2, 3}) {
		t.Error("what Fill answers shares bytes")
	}
	filled, _ = Fill(l, m, Address(1, 0), b)
	b[0] = 77
	spoil(m)
	if !same(filled, want) {
		t.Error("what was handed in is kept")
	}
}

func TestAreasOfOneAnswerShareNothing(t *testing.T) {
	l := layout(4, 4, 4)
	l.Context.Write = true
	one := make([]byte, 4, 600)
	shared := api.Memory{one, one[:512:600], one, one}
	m, e := Store(l, shared, Address(1, 0), 4, 0x01020304)
	if e != api.OK {
		t.Fatal(e)
	}
	if !bytes.Equal(m[0], []byte{4, 3, 2, 1}) || !same(m[1:], memory(512, 4, 4)) || !bytes.Equal(one, make([]byte, 4)) {
		t.Error("a store in one area is seen in another one")
	}
	m[3][0] = 9
	if m[2][0] != 0 || m[1][0] != 0 {
		t.Error("areas of one answer share bytes")
	}
}

func TestWhatIsStoredIsLoaded(t *testing.T) {
	l, m := sample()
	for _, x := range []uint64{0, 1, 255, 256, 0x8000, 1<<32 - 1, 1 << 32, 0x0123456789abcdef, 1 << 63, 1<<64 - 1} {
		for _, n := range []int{1, 2, 4, 8} {
			for _, a := range []uint64{Address(1, 0), Address(1, 24-n), Address(2, 1), Address(2, 512-n), Address(4, 3), Address(4, 32-n)} {
				next, e := Store(l, m, a, n, x)
				if e != api.OK || !May(l, next) {
					t.Fatalf("Store(%#x, %d) = %d", a, n, e)
				}
				want := x
				if n < 8 {
					want = x % (1 << (8 * n))
				}
				if got, e := Load(l, next, a, n); got != want || e != api.OK {
					t.Errorf("stored %#x of %d at %#x, loaded %#x, %d", x, n, a, got, e)
				}
				region, off := Split(a)
				copy(next[region-1][off:off+n], m[region-1][off:])
				if !same(next, m) {
					t.Errorf("a store of %d at %#x changed more", n, a)
				}
				m, _ = Store(l, m, a, n, x)
			}
		}
	}
}

func TestFaultsAreFoundInWhatWrapsThem(t *testing.T) {
	l, m := sample()
	_, err := read(l, m, api.Span{At: Address(3, 12), N: 8})
	if err == nil || err.Error() != "8 bytes at 12884901900: outside all regions" {
		t.Error(err)
	}
	if number(outer{err}) != api.ErrRange {
		t.Error("an error that is wrapped once more is not found")
	}
	_, err = write(l, m, Address(3, 8), []byte{1})
	if number(outer{err}) != api.ErrPerm {
		t.Error(err)
	}
}

type outer struct{ error }

func (o outer) Unwrap() error { return o.error }
