package flow

import (
	"stockade/api"
	"stockade/insn"
	"stockade/scalar"
	"stockade/word"
)

// jump tells what may be known behind a Jump: first where it is not made, then where it is.
func (p *point) jump() ([]Out, api.Errno) {
	a, b := p.s.Regs[p.i.Dst], p.operand()
	switch {
	case a.Kind == api.None || b.Kind == api.None:
		return nil, api.TrapEmpty
	case a.Kind == api.Num && b.Kind == api.Num:
		return p.sides(func(holds bool) (api.State, bool) { return p.refined(a.S, b.S, holds) }), api.OK
	case asksZero(p.w, p.i):
		return p.sides(func(holds bool) (api.State, bool) { return p.found(holds == (p.w.Op == word.Jeq)) }), api.OK
	}
	return nil, api.TrapKind
}

// asksZero answers whether a Jump asks if Dst is 0, as it may of an address, too.
func asksZero(w insn.What, i api.Insn) bool {
	return w.Wide && !w.Reg && i.Imm == 0 && (w.Op == word.Jeq || w.Op == word.Jne)
}

// sides gathers what is known if the condition does not hold, and if it does, as far as that may be.
func (p *point) sides(known func(holds bool) (api.State, bool)) []Out {
	var l []Out
	for _, holds := range [2]bool{false, true} {
		if s, may := known(holds); may {
			l = append(l, Out{At: p.leads(holds), S: s})
		}
	}
	return l
}

// refined tells what is known if the condition of two numbers holds, or if it does not.
func (p *point) refined(a, b api.Scalar, holds bool) (api.State, bool) {
	a, b, may := scalar.Refine(p.w.Op, p.w.Wide, a, b, holds)
	s := p.s
	if p.w.Reg && p.i.Dst == p.i.Src {
		return s, may
	}
	s = narrowed(s, p.i.Dst, a)
	if p.w.Reg {
		s = narrowed(s, p.i.Src, b)
	}
	return s, may
}

// narrowed tells what is known when a register that is a number has been narrowed to these; if it is the packet's length, this is narrowed with it.
func narrowed(s api.State, reg byte, to api.Scalar) api.State {
	s.Regs[reg].S = to
	if s.Regs[reg].Len {
		s.Packet = max(s.Packet, int(to.S.Lo))
	}
	return s
}

// found tells what is known if the address Dst is 0, or if it is not; of a lookup's answer alone both may be.
func (p *point) found(is0 bool) (api.State, bool) {
	s := p.s
	r := s.Regs[p.i.Dst]
	switch {
	case r.Kind != api.MaybeCell:
		return s, !is0
	case is0:
		s.Regs[p.i.Dst] = just(0)
	default:
		s.Regs[p.i.Dst] = api.Reg{Kind: api.Cell, Map: r.Map}
	}
	return s, true
}
