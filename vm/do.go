package vm

import (
	"stockade/api"
	"stockade/insn"
	"stockade/shape"
	"stockade/word"
)

// The registers that the machine itself sets or asks.
const (
	answer    = 0  // a helper's, and the program's
	handed    = 1  // what the program is handed; what a helper is handed is there and behind it
	lastSpent = 5  // behind a call nothing is in those from handed to this one
	stack     = 10 // where the stack ends
	registers = 11
)

func num(n uint64) api.Value { return api.Value{Kind: api.Num, N: n} }

// mustBe tells the trap of a value that is not of that kind.
func mustBe(v api.Value, kind byte) api.Errno {
	switch v.Kind {
	case kind:
		return api.OK
	case api.None:
		return api.TrapEmpty
	}
	return api.TrapKind
}

func isExit(i api.Insn) bool {
	w, _ := insn.Of(i)
	return w.Class == insn.Exit
}

// do does the instruction that comes next and tells the place behind it, or its trap; with that nothing has changed.
func (m *Machine) do(i api.Insn) (int, api.Errno) {
	w, _ := insn.Of(i) // no error: the image is right
	next := m.at + insn.Places(i)
	switch w.Class {
	case insn.Store, insn.StoreImm:
		return next, m.store(m.regs[i.Dst], int64(i.Off), w.Size, m.operand(w, i))
	case insn.Jump:
		is, e := holds(w, m.regs[i.Dst], m.operand(w, i))
		if is {
			next = shape.Target(m.at, i)
		}
		return next, e
	case insn.Goto:
		return shape.Target(m.at, i), api.OK
	case insn.Call:
		return next, m.call(i.Imm)
	case insn.Exit:
		return m.at, mustBe(m.regs[answer], api.Num)
	}
	v, e := m.made(w, i)
	if e == api.OK {
		m.regs[i.Dst] = v
	}
	return next, e
}

// operand tells the second operand of an Alu or a Jump, and what a Store or a StoreImm lays.
func (m *Machine) operand(w insn.What, i api.Insn) api.Value {
	if w.Reg || w.Class == insn.Store {
		return m.regs[i.Src]
	}
	return num(word.Ext(i.Imm))
}

// made tells what an instruction makes of Dst, for those classes that do nothing else.
func (m *Machine) made(w insn.What, i api.Insn) (api.Value, api.Errno) {
	switch w.Class {
	case insn.Alu:
		return alu(w, m.regs[i.Dst], m.operand(w, i))
	case insn.Swap:
		return swap(w, m.regs[i.Dst])
	case insn.Const:
		high := m.code[m.at+1].Imm
		return num(uint64(uint32(high))<<32 | uint64(uint32(i.Imm))), api.OK
	case insn.Ref:
		return api.Value{Kind: api.Ref, Map: int(i.Imm)}, api.OK
	}
	return m.load(m.regs[i.Src], int64(i.Off), w.Size)
}

func alu(w insn.What, a, b api.Value) (api.Value, api.Errno) {
	mov := w.Op == word.Mov
	switch {
	case a.Kind == api.None && !mov, b.Kind == api.None:
		return api.Value{}, api.TrapEmpty
	case (a.Kind == api.Num || mov) && b.Kind == api.Num:
		n, e := word.Alu(w.Op, w.Wide, a.N, b.N)
		return num(n), e
	case !w.Wide:
		return api.Value{}, api.TrapKind
	}
	return aluOfAddress(w.Op, a, b)
}

// aluOfAddress works out a wide operation one of whose operands is an address.
func aluOfAddress(op int, a, b api.Value) (api.Value, api.Errno) {
	switch {
	case op == word.Mov:
		return b, api.OK
	case op == word.Add && moves(a) && b.Kind == api.Num:
		return moved(a, int64(b.N))
	case op == word.Sub && moves(a) && b.Kind == api.Num:
		return moved(a, -int64(b.N)) // the one number that has no opposite stays as far as it was
	case op == word.Add && a.Kind == api.Num && moves(b):
		return moved(b, int64(a.N))
	}
	return api.Value{}, api.TrapKind
}

// moves answers whether a value is an address to which a number may be added.
func moves(v api.Value) bool {
	return v.Kind == api.Pkt || v.Kind == api.Frame || v.Kind == api.Cell
}

// moved tells the address that lies by so much higher.
func moved(v api.Value, by int64) (api.Value, api.Errno) {
	if far(by) || far(v.Off+by) {
		return api.Value{}, api.TrapWild
	}
	v.Off += by
	return v, api.OK
}

func far(n int64) bool { return n < -api.MaxFar || n > api.MaxFar }

func swap(w insn.What, v api.Value) (api.Value, api.Errno) {
	if e := mustBe(v, api.Num); e != api.OK {
		return api.Value{}, e
	}
	n, e := word.Swap(8*w.Size, v.N)
	return num(n), e
}

// holds answers whether a jump is made.
func holds(w insn.What, a, b api.Value) (bool, api.Errno) {
	switch {
	case a.Kind == api.None || b.Kind == api.None:
		return false, api.TrapEmpty
	case a.Kind == api.Num && b.Kind == api.Num:
		return word.Cond(w.Op, w.Wide, a.N, b.N)
	case w.Wide && !w.Reg && b.N == 0 && (w.Op == word.Jeq || w.Op == word.Jne):
		return w.Op == word.Jne, api.OK // an address is not 0
	}
	return false, api.TrapKind
}
