package astep

import (
	"clevis/api"
	"clevis/bound"
	"clevis/legal"
	"clevis/mem"
	"clevis/state"
	"clevis/word"
)

// reach is how far off an offset may be, so that nothing comes round when Off is added.
const reach = 1 << 40

// access answers the fact of an access of n bytes.
func (t step) access(base api.Known, off int, n int, write bool) (api.Fact, error) {
	if base.Kind != api.Place || base.Num.Smin < -reach || base.Num.Smax > reach {
		return api.Fact{}, t.harm(astray)
	}
	area, ok := mem.Area(t.layout, base.Region)
	low, high := base.Num.Smin+int64(off), base.Num.Smax+int64(off)
	if !ok || low < 0 || high > int64(area.Size-n) {
		return api.Fact{}, t.harm(astray)
	}
	if write && !area.Write {
		return api.Fact{}, t.harm(fixed)
	}
	return api.Fact{Seen: true, Region: base.Region, Low: low, High: high}, nil
}

func (t step) load() (outcome, error) {
	n := legal.Size(t.Op)
	f, err := t.access(t.before.Regs[t.Src], t.Off, n, false)
	if err != nil {
		return outcome{}, err
	}
	k, ok := number(bound.Size(n)), true
	if f.Region == api.Stack {
		k, ok = state.Load(t.before, int(f.Low), int(f.High), n)
	}
	if !ok {
		return outcome{}, t.harm(unready)
	}
	o := t.sets(k)
	o.fact = f
	return o, nil
}

func (t step) store() (outcome, error) {
	k, err := t.stored()
	if err != nil {
		return outcome{}, err
	}
	n := legal.Size(t.Op)
	f, err := t.access(t.before.Regs[t.Dst], t.Off, n, true)
	if err != nil {
		return outcome{}, err
	}
	var o outcome
	if f.Region == api.Stack {
		o = t.on(state.Store(t.before, int(f.Low), int(f.High), n, k))
	} else {
		o = t.on(twin(t.before))
	}
	o.fact = f
	return o, nil
}

// stored answers what is known of what a store stores.
func (t step) stored() (api.Known, error) {
	if class(t.Op) == api.ClsStx {
		return t.get(t.Src)
	}
	return number(bound.Const(word.Imm(t.Imm, true))), nil
}
