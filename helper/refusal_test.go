package helper

import (
	"errors"
	"strings"
	"testing"

	"clevis/api"
	"clevis/mem"
)

// why answers why a call is not done.
func why(l api.Layout, m api.Memory, n int, args []uint64) error {
	c, err := take(n, args)
	if err != nil {
		return err
	}
	return c.may(l, m)
}

func TestWhyAHelperRefuses(t *testing.T) {
	l := api.Layout{Context: api.Area{Size: 8}}
	m, _ := mem.Fresh(l)
	at := mem.Address(api.Context, 0)
	for _, c := range []struct {
		m    api.Memory
		n    int
		args []uint64
		want error
		code api.Errno
	}{
		{m, 6, []uint64{1, 2, 3}, errNone, api.ErrHelper},
		{m, mix, []uint64{1, 2}, errFew, api.ErrHelper},
		{m, send, []uint64{at, 0}, errSize, api.ErrHelper},
		{m, send, []uint64{at, 65}, errSize, api.ErrHelper},
		{m, send, []uint64{at, 9}, errPlace, api.ErrHelper},
		{m, recv, []uint64{at, 8}, errPlace, api.ErrHelper},
		{nil, send, []uint64{at, 8}, errStray, api.ErrArg},
	} {
		err := why(l, c.m, c.n, c.args)
		if !errors.Is(err, c.want) || number(err) != c.code {
			t.Errorf("helper %d of %v: %v, %d; want %v, %d", c.n, c.args, err, number(err), c.want, c.code)
			continue
		}
		if !strings.HasSuffix(err.Error(), ": "+c.want.Error()) {
			t.Errorf("helper %d of %v: %q; want to hear %q", c.n, c.args, err, c.want)
		}
	}
	if err := why(l, m, send, []uint64{at, 8}); err != nil || number(err) != api.OK {
		t.Errorf("send: %v", err)
	}
}
