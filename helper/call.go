package helper

import (
	"bytes"
	"slices"

	"clevis/api"
	"clevis/mem"
	"clevis/word"
)

// call is a helper, and just as many arguments as it has.
type call struct {
	signature
	n    int
	args []uint64
}

// take answers the call of a helper, if there is one and it has its arguments.
func take(n int, args []uint64) (call, error) {
	s, ok := signatures()[n]
	if !ok {
		return call{}, refusal{n, errNone}
	}
	count := len(s.args())
	if len(args) < count {
		return call{}, refusal{n, errFew}
	}
	return call{s, n, args[:count]}, nil
}

// span answers the bytes at the argument of a kind. The least size that is too great stands for all of them, since not every number is an int.
func (c call) span(k api.ArgKind) api.Span {
	i := slices.Index(c.kinds[:], k)
	if i < 0 {
		return api.Span{}
	}
	return api.Span{At: c.args[i], N: int(min(c.args[i+1], mostSize+1))}
}

// may tells why the call may not be done.
func (c call) may(l api.Layout, m api.Memory) error {
	for _, k := range c.kinds {
		if !isAddress(k) {
			continue
		}
		s := c.span(k)
		if s.N < 1 || s.N > c.most {
			return refusal{c.n, errSize}
		}
		if mem.Access(l, s.At, s.N, k == api.ArgWrite) != api.OK {
			return refusal{c.n, errPlace}
		}
	}
	if !mem.May(l, m) {
		return refusal{c.n, errStray}
	}
	return nil
}

// value answers what the helper answers, of the number that it was given for that.
func (c call) value(given uint64) uint64 {
	if c.n == mix {
		return c.args[0] + 3*c.args[1] + 5*c.args[2] + given
	}
	return given
}

// told answers what is told of the call.
func (c call) told(l api.Layout, m api.Memory) api.Told {
	t := api.Told{Helper: c.n}
	for i, x := range c.args {
		if isAddress(c.kinds[i]) {
			x = 0
		}
		t.Args = append(t.Args, x)
	}
	if s := c.span(api.ArgRead); s.N > 0 {
		t.Data, _ = mem.Bytes(l, m, s.At, s.N)
	}
	return t
}

// after answers the memory as the call leaves it: another one, even if nothing was written.
func (c call) after(l api.Layout, m api.Memory, answer uint64) api.Memory {
	if s := c.span(api.ArgWrite); s.N > 0 {
		t, _ := mem.Fill(l, m, s.At, repeated(answer, s.N))
		return t
	}
	t := make(api.Memory, len(m))
	for i, b := range m {
		t[i] = bytes.Clone(b)
	}
	return t
}

// repeated answers n bytes: those of x, over and over.
func repeated(x uint64, n int) []byte {
	p := word.Put(x, 8)
	b := make([]byte, n)
	for i := range b {
		b[i] = p[i%len(p)]
	}
	return b
}
