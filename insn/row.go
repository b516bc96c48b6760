package insn

import "stockade/api"

// Operations and registers that the table singles out.
const (
	lastOp      = 12
	neg         = 8  // looks at one number only
	mov         = 11 // does not look at what was there
	answer      = 0  // the register in which a helper and a program answer
	lastRead    = 10
	lastWritten = 9
)

// The parts of an Op: its low three bits say the family, the bit above them, of an Alu and a Jump, that Src takes part, the high four bits the operation or the condition.
const (
	family      = 7
	famLoad     = 1
	famPut      = 2
	famStore    = 3
	famAlu      = 4
	famJumpWide = 5
	famJump     = 6
	famAluWide  = 7
	bySrc       = 8

	memory  = 3 // the high three bits of what goes to memory
	opSwap  = 0xd7
	opGoto  = 0x05
	opCall  = 0x85
	opExit  = 0x95
	opConst = 0x18 // of a Ref, too
)

// sizes: by the two bits above the family, of what goes to memory.
var sizes = [4]int{4, 2, 1, 8}

// use is what a row says of a field.
type use int

const (
	nought use = iota
	free
	read
	written
)

// row is a row of the chapter's table. What of Src or Imm chose the row is free in it: it is settled.
type row struct {
	is                 What
	dst, src, off, imm use
}

// take tells the row of an instruction that may be, or else what is wrong with it.
func take(i api.Insn) (row, api.Errno) {
	r := rowOf(i)
	switch {
	case r.is == What{}:
		return row{}, api.ErrOp
	case !mayStand(r.dst, i.Dst) || !mayStand(r.src, i.Src):
		return row{}, api.ErrReg
	case !mayBe(r.dst, int(i.Dst)) || !mayBe(r.src, int(i.Src)) || !mayBe(r.off, int(i.Off)) || !mayBe(r.imm, int(i.Imm)):
		return row{}, api.ErrZero
	}
	return r, api.OK
}

func mayStand(u use, reg byte) bool {
	switch u {
	case read:
		return reg <= lastRead
	case written:
		return reg <= lastWritten
	}
	return true
}

func mayBe(u use, n int) bool { return u != nought || n == 0 }

// alters answers whether what is written hangs on what was there.
func alters(w What) bool { return w.Class == Alu && w.Op != mov || w.Class == Swap }

// rowOf tells the row in which i stands; of none, the zero row.
func rowOf(i api.Insn) row {
	switch i.Op {
	case opSwap:
		return swapRow(i.Imm)
	case opGoto:
		return row{is: What{Class: Goto}, off: free}
	case opCall:
		return row{is: What{Class: Call}, imm: free}
	case opExit:
		return row{is: What{Class: Exit}}
	case opConst:
		return constRow(i.Src)
	}
	switch i.Op & family {
	case famLoad, famPut, famStore:
		return memoryRow(i.Op)
	case famAlu, famAluWide:
		return aluRow(i.Op)
	case famJump, famJumpWide:
		return jumpRow(i.Op)
	}
	return row{}
}

func swapRow(bits int32) row {
	switch bits {
	case 16, 32, 64:
		return row{is: What{Class: Swap, Size: int(bits) / 8}, dst: written, imm: free}
	}
	return row{}
}

func constRow(src byte) row {
	switch src {
	case 0:
		return row{is: What{Class: Const}, dst: written, src: free, imm: free}
	case 1:
		return row{is: What{Class: Ref}, dst: written, src: free, imm: free}
	}
	return row{}
}

func memoryRow(op byte) row {
	if op>>5 != memory {
		return row{}
	}
	size := sizes[op>>3&3]
	switch op & family {
	case famLoad:
		return row{is: What{Class: Load, Size: size}, dst: written, src: read, off: free}
	case famPut:
		return row{is: What{Class: StoreImm, Size: size}, dst: read, off: free, imm: free}
	}
	return row{is: What{Class: Store, Size: size}, dst: read, src: read, off: free}
}

func aluRow(op byte) row {
	w := What{Class: Alu, Op: int(op >> 4), Wide: op&family == famAluWide, Reg: op&bySrc != 0}
	switch {
	case w.Op > lastOp || w.Op == neg && w.Reg:
		return row{}
	case w.Op == neg:
		return row{is: w, dst: written}
	case w.Reg:
		return row{is: w, dst: written, src: read}
	}
	return row{is: w, dst: written, imm: free}
}

func jumpRow(op byte) row {
	w := What{Class: Jump, Op: int(op >> 4), Wide: op&family == famJumpWide, Reg: op&bySrc != 0}
	switch {
	case w.Op < 1 || w.Op > 7 && w.Op < 10 || w.Op > 13:
		return row{}
	case w.Reg:
		return row{is: w, dst: read, src: read, off: free}
	}
	return row{is: w, dst: read, off: free, imm: free}
}

// opOf tells the Op that an instruction has which is w; of a w that none is, any.
func opOf(w What) byte {
	op := byte(w.Op) << 4
	if w.Reg {
		op |= bySrc
	}
	switch w.Class {
	case Alu:
		return op | either(w.Wide, famAluWide, famAlu)
	case Jump:
		return op | either(w.Wide, famJumpWide, famJump)
	case Load:
		return memoryOp(w.Size, famLoad)
	case StoreImm:
		return memoryOp(w.Size, famPut)
	case Store:
		return memoryOp(w.Size, famStore)
	case Swap:
		return opSwap
	case Goto:
		return opGoto
	case Call:
		return opCall
	case Exit:
		return opExit
	}
	return opConst
}

func either(is bool, yes, no byte) byte {
	if is {
		return yes
	}
	return no
}

func memoryOp(size int, fam byte) byte {
	for bits, s := range sizes {
		if s == size {
			return memory<<5 | byte(bits)<<3 | fam
		}
	}
	return 0
}
