package flow

import (
	"stockade/api"
	"stockade/insn"
	"stockade/scalar"
	"stockade/word"
)

func swap(w insn.What, r api.Reg) (api.Reg, api.Errno) {
	if e := mustBe(r, api.Num); e != api.OK {
		return api.Reg{}, e
	}
	s, e := scalar.Swap(8*w.Size, r.S)
	return plain(s), e
}

func alu(w insn.What, a, b api.Reg) (api.Reg, api.Errno) {
	mov := w.Op == word.Mov
	switch {
	case a.Kind == api.None && !mov, b.Kind == api.None:
		return api.Reg{}, api.TrapEmpty
	case mov && w.Wide:
		return b, api.OK
	case (a.Kind == api.Num || mov) && b.Kind == api.Num:
		s, e := scalar.Alu(w.Op, w.Wide, a.S, b.S) // of what is no number S is zero, which may be, and Mov does not look at it
		return plain(s), e
	case !w.Wide:
		return api.Reg{}, api.TrapKind
	}
	return aluOfAddress(w.Op, a, b)
}

// aluOfAddress tells what a wide operation makes of operands one of which is an address.
func aluOfAddress(op int, a, b api.Reg) (api.Reg, api.Errno) {
	switch {
	case op == word.Add && moves(a) && b.Kind == api.Num:
		return moved(a, b.S, false)
	case op == word.Sub && moves(a) && b.Kind == api.Num:
		return moved(a, b.S, true)
	case op == word.Add && a.Kind == api.Num && moves(b):
		return moved(b, a.S, false)
	}
	return api.Reg{}, api.TrapKind
}

// moves answers whether a register is an address to which a number may be added.
func moves(r api.Reg) bool {
	return r.Kind == api.Pkt || r.Kind == api.Frame || r.Kind == api.Cell
}

// moved tells the address that lies higher, or lower, by a number.
func moved(r api.Reg, by api.Scalar, down bool) (api.Reg, api.Errno) {
	lo, hi, is := distance(by)
	if !is {
		return api.Reg{}, api.TrapWild
	}
	if down {
		lo, hi = -hi, -lo
	}
	r.Lo += lo
	r.Hi += hi
	if far(r.Lo) || far(r.Hi) {
		return api.Reg{}, api.TrapWild
	}
	return r, api.OK
}

// distance tells between which ends a number moves an address, and whether these are known well enough: only of a single number is the sign looked at.
func distance(s api.Scalar) (int64, int64, bool) {
	lo, hi := int64(s.S.Lo), int64(s.S.Hi)
	if lo == hi {
		return lo, hi, !far(lo)
	}
	return lo, hi, s.S.Hi <= api.MaxFar
}

func far(n int64) bool { return n < -api.MaxFar || n > api.MaxFar }
