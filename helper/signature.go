package helper

import "clevis/api"

// The helpers' numbers.
const (
	now = iota + 1
	put
	send
	recv
	mix
)

const (
	mostArgs = 3
	mostSize = 64
)

// signature is what a helper takes: its kinds, and behind them ArgNone. Behind each address stands its size.
type signature struct {
	name  string
	kinds [mostArgs]api.ArgKind
	most  int
}

func signatures() map[int]signature {
	return map[int]signature{
		now:  {name: "now"},
		put:  {name: "put", kinds: [mostArgs]api.ArgKind{api.ArgScalar}},
		send: {name: "send", kinds: [mostArgs]api.ArgKind{api.ArgRead, api.ArgSize}, most: mostSize},
		recv: {name: "recv", kinds: [mostArgs]api.ArgKind{api.ArgWrite, api.ArgSize}, most: mostSize},
		mix:  {name: "mix", kinds: [mostArgs]api.ArgKind{api.ArgScalar, api.ArgScalar, api.ArgScalar}},
	}
}

// args answers the kinds alone, in a list of its own.
func (s signature) args() []api.ArgKind {
	var l []api.ArgKind
	for _, k := range s.kinds {
		if k != api.ArgNone {
			l = append(l, k)
		}
	}
	return l
}

func isAddress(k api.ArgKind) bool { return k == api.ArgRead || k == api.ArgWrite }
