package code

import (
	"clevis/api"
	"clevis/word"
)

// slotSize is how many bytes a slot has.
const slotSize = 8

// Where a slot's fields stand in an array of them: in the order of its bytes, which is that of its text too.
const (
	opAt = iota
	dstAt
	srcAt
	offAt
	immAt
	fieldCount
)

// fields are the numbers of a slot.
type fields [fieldCount]int

// row is some bits of a slot, one beside the other, that are a field, and whether the highest one is its sign.
type row struct {
	from int
	bits int
	sign bool
}

// rows are where the fields lie, the slot taken as one number.
var rows = [fieldCount]row{
	{0, 8, false},
	{8, 4, false},
	{12, 4, false},
	{16, 16, true},
	{32, 32, true},
}

func (r row) get(x uint64) int {
	spare := 8*slotSize - r.bits
	x <<= spare - r.from
	if r.sign {
		return int(int64(x) >> spare)
	}
	return int(x >> spare)
}

func (r row) put(n int) uint64 {
	spare := 8*slotSize - r.bits
	return uint64(n) << spare >> (spare - r.from)
}

// unpack answers the fields of a slot.
func unpack(b []byte) fields {
	x := word.Get(b)
	var f fields
	for i, r := range rows {
		f[i] = r.get(x)
	}
	return f
}

// pack answers the slot of fields; of a number that is too long for its field, what there is room for.
func pack(f fields) []byte {
	x := uint64(0)
	for i, r := range rows {
		x |= r.put(f[i])
	}
	return word.Put(x, slotSize)
}

// fits tells whether a slot has room for the fields: then, and then alone, they are unpacked as they were packed.
func fits(f fields) bool { return unpack(pack(f)) == f }

// numbers answers an instruction's fields.
func numbers(x api.Ins) fields {
	return fields{x.Op, x.Dst, x.Src, x.Off, x.Imm}
}

// rest answers the fields of a wide instruction's second slot.
func rest(wide uint64) fields {
	return fields{immAt: signed(wide >> 32)}
}

// signed answers the lowest 32 bits with their sign.
func signed(x uint64) int { return int(int64(word.Sign(x, 4))) }

// cut answers a program's slots, which share its bytes, but none of them the next one's.
func cut(b []byte) ([][]byte, error) {
	n := len(b) / slotSize
	if len(b) == 0 || len(b)%slotSize != 0 {
		return nil, fault{api.ErrSlot, n}
	}
	if n > api.MaxSlots {
		return nil, fault{api.ErrLong, api.MaxSlots}
	}
	slots := make([][]byte, n)
	for i := range slots {
		from, to := i*slotSize, (i+1)*slotSize
		slots[i] = b[from:to:to]
	}
	return slots, nil
}
