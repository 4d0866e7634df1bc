package word

// longest is how many bytes a number has at most.
const longest = 8

// Size tells whether a number of so many bytes may be loaded and stored.
func Size(n int) bool {
	return n == 1 || n == 2 || n == 4 || n == longest
}

// Sign answers n's lowest size bytes with their highest bit as a sign; n itself, if size is no Size.
func Sign(n uint64, size int) uint64 {
	if !Size(size) {
		return n
	}
	spare := 8 * (longest - size)
	return uint64(int64(n<<spare) >> spare)
}

// Imm answers an instruction's number as a register has it.
func Imm(n int, wide bool) uint64 {
	if wide {
		return Sign(uint64(n), 4)
	}
	return low(uint64(n))
}

// Get answers the number of at most the first eight bytes, the lowest first.
func Get(b []byte) uint64 {
	x := uint64(0)
	for i := range min(len(b), longest) {
		x |= uint64(b[i]) << (8 * i)
	}
	return x
}

// Put answers the lowest size bytes of x, the lowest first; none, if size is no Size.
func Put(x uint64, size int) []byte {
	if !Size(size) {
		return nil
	}
	var b [longest]byte
	for i := range b {
		b[i] = byte(x >> (8 * i))
	}
	return b[:size:size]
}
