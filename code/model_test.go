package code_test

import (
	"bytes"
	"encoding/binary"
	"math/rand/v2"
	"reflect"

	"clevis/api"
)

// The model says once more what the chapter says, by other means, and refuses by saying false.

// modelSlot reads a slot, taken as no wide one.
func modelSlot(b []byte) api.Ins {
	return api.Ins{
		Op:  int(b[0]),
		Dst: int(b[1] % 16),
		Src: int(b[1] / 16),
		Off: int(int16(binary.LittleEndian.Uint16(b[2:]))),
		Imm: int(int32(binary.LittleEndian.Uint32(b[4:]))),
	}
}

func modelDecode(b []byte) ([]api.Ins, api.Errno) {
	switch {
	case len(b) == 0 || len(b)%8 != 0:
		return nil, api.ErrSlot
	case len(b) > 8*4096:
		return nil, api.ErrLong
	}
	var l []api.Ins
	for ; len(b) > 0; b = b[8:] {
		x := modelSlot(b)
		l = append(l, x)
		if x.Op != 0x18 {
			continue
		}
		b = b[8:]
		if len(b) == 0 || !bytes.Equal(b[:4], []byte{0, 0, 0, 0}) {
			return nil, api.ErrSlot
		}
		l[len(l)-1].Wide = uint64(uint32(x.Imm)) + uint64(binary.LittleEndian.Uint32(b[4:]))<<32
		l = append(l, api.Ins{})
	}
	return l, api.OK
}

// modelEncode writes what fits and what not, and refuses what is then not read as it was.
func modelEncode(l []api.Ins) ([]byte, api.Errno) {
	var b []byte
	for i := 0; i < len(l); i++ {
		x := l[i]
		b = append(b, byte(x.Op), byte(x.Dst)%16+byte(x.Src)%16*16)
		b = binary.LittleEndian.AppendUint16(b, uint16(x.Off))
		b = binary.LittleEndian.AppendUint32(b, uint32(x.Imm))
		if x.Op == 0x18 {
			i++
			b = append(b, 0, 0, 0, 0)
			b = binary.LittleEndian.AppendUint32(b, uint32(x.Wide>>32))
		}
	}
	if again, e := modelDecode(b); e != api.OK || !reflect.DeepEqual(again, l) {
		return nil, api.ErrArg
	}
	return b, api.OK
}

// chance is a row of numbers that is the same one each time.
func chance() *rand.Rand { return rand.New(rand.NewPCG(3, 18)) }

// someBytes answers slots in which wide ones are not rare, most of them with a second slot that may be.
func someBytes(r *rand.Rand, slots int) []byte {
	b := make([]byte, 8*slots)
	for i := range b {
		b[i] = byte(r.Uint32())
	}
	for i := 0; i < slots; i++ {
		if r.IntN(3) > 0 {
			continue
		}
		b[8*i] = 0x18
		if i+1 < slots && r.IntN(20) > 0 {
			i++
			copy(b[8*i:], []byte{0, 0, 0, 0})
		}
	}
	return b
}
