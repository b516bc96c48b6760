package state

import (
	"stockade/api"
	"stockade/scalar"
)

// regMay answers whether a register's knowledge may be: it is held against one that has no more than its kind names.
func regMay(r api.Reg) bool {
	switch r.Kind {
	case api.None, api.Ctx:
		return r == api.Reg{Kind: r.Kind}
	case api.Num:
		return r == api.Reg{Kind: r.Kind, Len: r.Len, S: r.S} && scalar.May(r.S) && !(r.Len && r.S.S.Hi > api.MaxPacket)
	case api.Pkt, api.Frame:
		return r == api.Reg{Kind: r.Kind, Lo: r.Lo, Hi: r.Hi} && isNear(r)
	case api.Ref, api.MaybeCell:
		return r == api.Reg{Kind: r.Kind, Map: r.Map} && r.Map >= 0
	case api.Cell:
		return r == api.Reg{Kind: r.Kind, Map: r.Map, Lo: r.Lo, Hi: r.Hi} && r.Map >= 0 && isNear(r)
	}
	return false
}

// isNear answers whether an address lies between two ends, neither of which is far.
func isNear(r api.Reg) bool { return -api.MaxFar <= r.Lo && r.Lo <= r.Hi && r.Hi <= api.MaxFar }

// regHolds answers whether a register's knowledge holds a value; both may be, so what their kind does not name is 0 in both.
func regHolds(r api.Reg, v api.Value, packet int) bool {
	switch r.Kind {
	case api.None:
		return true
	case api.Num:
		return v.Kind == r.Kind && scalar.Has(r.S, v.N) && (!r.Len || v.N == uint64(packet))
	case api.MaybeCell:
		return v == api.Value{Kind: api.Num} || v == api.Value{Kind: api.Cell, Map: r.Map, N: v.N}
	}
	return v.Kind == r.Kind && v.Map == r.Map && r.Lo <= v.Off && v.Off <= r.Hi
}

// regIn answers whether a register's knowledge is in another one; both may be, so what their kind does not name is 0 in both.
func regIn(a, b api.Reg) bool {
	switch {
	case b.Kind == api.None:
		return true
	case b.Kind == api.MaybeCell:
		return isMaybe(a, b.Map)
	case a.Kind != b.Kind:
		return false
	case a.Kind == api.Num:
		return scalar.In(a.S, b.S) && (a.Len || !b.Len)
	}
	return a.Map == b.Map && b.Lo <= a.Lo && a.Hi <= b.Hi
}

// anyNumber answers what is known of a register that is a number, and no more.
func anyNumber() api.Reg { return api.Reg{Kind: api.Num, S: scalar.All()} }

// isMaybe answers whether a MaybeCell of the map holds all that r holds.
func isMaybe(r api.Reg, of int) bool {
	switch r.Kind {
	case api.Num:
		return r.S == scalar.Of(0)
	case api.Cell, api.MaybeCell:
		return r == api.Reg{Kind: r.Kind, Map: of}
	}
	return false
}

// regJoin answers the least register's knowledge in which both are; both may be, so what their kind does not name is 0 in both.
func regJoin(a, b api.Reg) api.Reg {
	if a.Kind == b.Kind && a.Map == b.Map {
		s, _ := scalar.Join(a.S, b.S)
		return api.Reg{Kind: a.Kind, Len: a.Len && b.Len, Map: a.Map, S: s, Lo: min(a.Lo, b.Lo), Hi: max(a.Hi, b.Hi)}
	}
	of := max(a.Map, b.Map) // that of the one that has a map, if the other one is a number
	if isMaybe(a, of) && isMaybe(b, of) {
		return api.Reg{Kind: api.MaybeCell, Map: of}
	}
	return api.Reg{}
}
