package flow

import (
	"stockade/api"
	"stockade/insn"
	"stockade/scalar"
	"stockade/shape"
	"stockade/word"
)

// The registers that a run itself sets or asks.
const (
	answer    = 0 // a helper's, and the program's
	handed    = 1 // what a helper is handed is there and behind it
	lastSpent = 5 // behind a call nothing is in those from handed to this one
)

// point is an instruction of an image that is right, and what is known ahead of it.
type point struct {
	code []api.Insn
	maps []api.Map
	at   int
	i    api.Insn
	w    insn.What
	s    api.State
}

// plain tells what is known of a register that is a number, and no more.
func plain(s api.Scalar) api.Reg { return api.Reg{Kind: api.Num, S: s} }

func just(n uint64) api.Reg { return plain(scalar.Of(n)) }

// below tells what is known of a number of so many bytes.
func below(size int) api.Reg { return plain(scalar.Below(8 * size)) }

// mustBe tells the reason of a register that is not of that kind.
func mustBe(r api.Reg, kind byte) api.Errno {
	switch r.Kind {
	case kind:
		return api.OK
	case api.None:
		return api.TrapEmpty
	}
	return api.TrapKind
}

// outs tells what may be known behind the instruction, and where; or why it may trap.
func (p *point) outs() ([]Out, api.Errno) {
	switch p.w.Class {
	case insn.Jump:
		return p.jump()
	case insn.Goto:
		return []Out{{At: p.leads(true), S: p.s}}, api.OK
	case insn.Exit:
		return nil, mustBe(p.s.Regs[answer], api.Num)
	}
	s, e := p.behind()
	if e != api.OK {
		return nil, e
	}
	return []Out{{At: p.leads(false), S: s}}, api.OK
}

// leads tells the place behind the instruction, or its target.
func (p *point) leads(jumps bool) int {
	if jumps {
		return shape.Target(p.at, p.i)
	}
	return p.at + insn.Places(p.i)
}

// behind tells what is known behind an instruction that leads to one place only.
func (p *point) behind() (api.State, api.Errno) {
	switch p.w.Class {
	case insn.Store, insn.StoreImm:
		return p.store()
	case insn.Call:
		return p.call()
	}
	r, e := p.made()
	s := p.s
	s.Regs[p.i.Dst] = r
	return s, e
}

// operand tells what is known of the second operand of an Alu or a Jump, and of what a Store or a StoreImm lays.
func (p *point) operand() api.Reg {
	if p.w.Reg || p.w.Class == insn.Store {
		return p.s.Regs[p.i.Src]
	}
	return just(word.Ext(p.i.Imm))
}

// made tells what an instruction makes of Dst, for those classes that do nothing else.
func (p *point) made() (api.Reg, api.Errno) {
	switch p.w.Class {
	case insn.Alu:
		return alu(p.w, p.s.Regs[p.i.Dst], p.operand())
	case insn.Swap:
		return swap(p.w, p.s.Regs[p.i.Dst])
	case insn.Const:
		high := p.code[p.at+1].Imm
		return just(uint64(uint32(high))<<32 | uint64(uint32(p.i.Imm))), api.OK
	case insn.Ref:
		return api.Reg{Kind: api.Ref, Map: int(p.i.Imm)}, api.OK
	}
	return p.load()
}
