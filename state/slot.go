package state

import (
	"stockade/api"
	"stockade/mem"
)

const all = 255 // the Have of a slot of whose eight bytes each holds something

func slotMay(s api.Slot) bool {
	return s.R == api.Reg{} || regMay(s.R) && s.Have == all
}

// slotHolds answers whether a slot's knowledge holds a slot of a frame; both may be.
func slotHolds(k api.Slot, s mem.Slot, packet int) bool {
	hasAddress := s.V != api.Value{}
	switch {
	case k.R.Kind == api.None:
		return k.Have == 0 || !hasAddress && k.Have&^s.Have == 0
	case hasAddress:
		return regHolds(k.R, s.V, packet)
	}
	n, _ := mem.Get(s.B[:], 0, len(s.B))
	return s.Have == all && regHolds(k.R, api.Value{Kind: api.Num, N: n}, packet)
}

// slotIn answers whether a slot's knowledge is in another one; both may be.
func slotIn(a, b api.Slot) bool {
	switch {
	case b.R.Kind == api.None:
		return b.Have&^sure(a) == 0
	case a.R.Kind == api.None:
		return a.Have == all && b.R == anyNumber()
	}
	return regIn(a.R, b.R)
}

// slotJoin answers the least slot's knowledge in which both are; both may be.
func slotJoin(a, b api.Slot) api.Slot {
	if r := regJoin(a.R, b.R); r.Kind != api.None {
		return api.Slot{Have: all, R: r}
	}
	return api.Slot{Have: sure(a) & sure(b)}
}

// sure answers of which bytes of a slot it is known that they hold something, and no part of an address.
func sure(s api.Slot) byte {
	switch s.R.Kind {
	case api.None:
		return s.Have
	case api.Num:
		return all
	}
	return 0
}
