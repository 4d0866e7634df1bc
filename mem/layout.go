package mem

import "clevis/api"

// Check tells whether a layout may be.
func Check(l api.Layout) api.Errno {
	if !within(l.Context.Size, 0) || len(l.Maps) > api.MaxMaps {
		return api.ErrLayout
	}
	for _, a := range l.Maps {
		if !within(a.Size, 1) {
			return api.ErrLayout
		}
	}
	return api.OK
}

func within(size int, least int) bool { return least <= size && size <= api.MaxArea }

// Area answers a region's area, and whether there is such a region.
func Area(l api.Layout, region int) (api.Area, bool) {
	if Check(l) != api.OK || !isRegion(l, region) {
		return api.Area{}, false
	}
	return area(l, region), true
}

func isRegion(l api.Layout, region int) bool {
	return api.Context <= region && region < api.FirstMap+len(l.Maps)
}

func area(l api.Layout, region int) api.Area {
	switch region {
	case api.Context:
		return l.Context
	case api.Stack:
		return api.Area{Size: api.StackSize, Write: true}
	}
	return l.Maps[region-api.FirstMap]
}

// sizes answers the regions' sizes, in order.
func sizes(l api.Layout) []int {
	n := make([]int, api.FirstMap-api.Context+len(l.Maps))
	for i := range n {
		n[i] = area(l, api.Context+i).Size
	}
	return n
}

// May tells whether a memory is a layout's.
func May(l api.Layout, m api.Memory) bool {
	if Check(l) != api.OK {
		return false
	}
	want := sizes(l)
	if len(m) != len(want) {
		return false
	}
	for i, n := range want {
		if len(m[i]) != n {
			return false
		}
	}
	return true
}

// Fresh answers a memory of noughts.
func Fresh(l api.Layout) (api.Memory, api.Errno) {
	if e := Check(l); e != api.OK {
		return nil, e
	}
	var m api.Memory
	for _, n := range sizes(l) {
		m = append(m, make([]byte, n))
	}
	return m, api.OK
}
