package insn_test

import (
	"math"
	"strings"
	"testing"

	"stockade/api"
	"stockade/insn"
)

// line is a row of the chapter's table as it stands there: its Ops, o's digits, and of each field r (read), w (written), a (any), - or the number that it must be.
type line struct {
	ops, digits        string
	is                 insn.What
	dst, src, off, imm string
}

const (
	ofAlu   = "0123456789abc"
	notNeg  = "012345679abc"
	justNeg = "8"
	ofJump  = "1234567abcd"
)

// chapter: the table.
func chapter() []line {
	return []line{
		{"o4", notNeg, insn.What{Class: 1}, "w", "-", "-", "a"},
		{"o7", notNeg, insn.What{Class: 1, Wide: true}, "w", "-", "-", "a"},
		{"o4", justNeg, insn.What{Class: 1}, "w", "-", "-", "-"},
		{"o7", justNeg, insn.What{Class: 1, Wide: true}, "w", "-", "-", "-"},
		{"oc", notNeg, insn.What{Class: 1, Reg: true}, "w", "r", "-", "-"},
		{"of", notNeg, insn.What{Class: 1, Wide: true, Reg: true}, "w", "r", "-", "-"},
		{"d7", "", insn.What{Class: 2, Size: 2}, "w", "-", "-", "16"},
		{"d7", "", insn.What{Class: 2, Size: 4}, "w", "-", "-", "32"},
		{"d7", "", insn.What{Class: 2, Size: 8}, "w", "-", "-", "64"},
		{"61", "", insn.What{Class: 3, Size: 4}, "w", "r", "a", "-"},
		{"69", "", insn.What{Class: 3, Size: 2}, "w", "r", "a", "-"},
		{"71", "", insn.What{Class: 3, Size: 1}, "w", "r", "a", "-"},
		{"79", "", insn.What{Class: 3, Size: 8}, "w", "r", "a", "-"},
		{"63", "", insn.What{Class: 4, Size: 4}, "r", "r", "a", "-"},
		{"6b", "", insn.What{Class: 4, Size: 2}, "r", "r", "a", "-"},
		{"73", "", insn.What{Class: 4, Size: 1}, "r", "r", "a", "-"},
		{"7b", "", insn.What{Class: 4, Size: 8}, "r", "r", "a", "-"},
		{"62", "", insn.What{Class: 5, Size: 4}, "r", "-", "a", "a"},
		{"6a", "", insn.What{Class: 5, Size: 2}, "r", "-", "a", "a"},
		{"72", "", insn.What{Class: 5, Size: 1}, "r", "-", "a", "a"},
		{"7a", "", insn.What{Class: 5, Size: 8}, "r", "-", "a", "a"},
		{"o6", ofJump, insn.What{Class: 6}, "r", "-", "a", "a"},
		{"o5", ofJump, insn.What{Class: 6, Wide: true}, "r", "-", "a", "a"},
		{"oe", ofJump, insn.What{Class: 6, Reg: true}, "r", "r", "a", "-"},
		{"od", ofJump, insn.What{Class: 6, Wide: true, Reg: true}, "r", "r", "a", "-"},
		{"05", "", insn.What{Class: 7}, "-", "-", "a", "-"},
		{"85", "", insn.What{Class: 8}, "-", "-", "-", "a"},
		{"95", "", insn.What{Class: 9}, "-", "-", "-", "-"},
		{"18", "", insn.What{Class: 10}, "w", "0", "-", "a"},
		{"18", "", insn.What{Class: 11}, "w", "1", "-", "a"},
	}
}

func digit(c byte) int { return strings.IndexByte("0123456789abcdef", c) }

// number: what a field of a line must be, if it says a number.
func number(field string) (int, bool) {
	n := 0
	for k := range len(field) {
		d := digit(field[k])
		if d < 0 || d > 9 {
			return 0, false
		}
		n = 10*n + d
	}
	return n, true
}

// one is a row for one Op and one operation.
type one struct {
	line
	op byte
}

// every row of the chapter's table, an operation each.
func every() []one {
	var l []one
	for _, x := range chapter() {
		low := digit(x.ops[1])
		if x.digits == "" {
			l = append(l, one{x, byte(16*digit(x.ops[0]) + low)})
		}
		for k := range len(x.digits) {
			y := one{x, byte(16*digit(x.digits[k]) + low)}
			if x.is.Class == 1 || x.is.Class == 6 {
				y.is.Op = digit(x.digits[k])
			}
			l = append(l, y)
		}
	}
	return l
}

func (x one) stands(i api.Insn) bool {
	src, ofSrc := number(x.src)
	imm, ofImm := number(x.imm)
	return i.Op == x.op && (!ofSrc || int(i.Src) == src) && (!ofImm || int(i.Imm) == imm)
}

// may: whether the fields are as the row says.
func (x one) may(i api.Insn) api.Errno {
	for _, f := range []struct {
		says string
		reg  byte
	}{{x.dst, i.Dst}, {x.src, i.Src}} {
		if f.says == "r" && f.reg > 10 || f.says == "w" && f.reg > 9 {
			return api.ErrReg
		}
	}
	for _, f := range []struct {
		says string
		n    int
	}{{x.dst, int(i.Dst)}, {x.src, int(i.Src)}, {x.off, int(i.Off)}, {x.imm, int(i.Imm)}} {
		if f.says == "-" && f.n != 0 {
			return api.ErrZero
		}
	}
	return api.OK
}

// told: what the chapter says of i, by its rows.
func told(l []one, i api.Insn) (one, api.Errno) {
	for _, x := range l {
		if x.stands(i) {
			return x, x.may(i)
		}
	}
	return one{}, api.ErrOp
}

// each hands on instructions of all Ops, with fields at all edges and some beside them.
func each(f func(i api.Insn)) {
	regs := []byte{0, 1, 2, 8, 9, 10, 11, 15, 16, 26, 128, 255}
	imms := []int32{0, 1, -1, 8, 16, 24, 32, 48, 64, 128, -16, 1<<16 + 16, math.MaxInt32, math.MinInt32, math.MinInt32 + 16}
	for op := range 256 {
		for _, dst := range regs {
			for _, src := range regs {
				for _, off := range []int16{0, 1, -1, 256, math.MaxInt16, math.MinInt16} {
					for _, imm := range imms {
						f(api.Insn{Op: byte(op), Dst: dst, Src: src, Off: off, Imm: imm})
					}
				}
			}
		}
	}
}

// eachTold hands on these instructions with what the chapter says of them.
func eachTold(f func(i api.Insn, x one, e api.Errno)) {
	var byOp [256][]one
	for _, x := range every() {
		byOp[x.op] = append(byOp[x.op], x)
	}
	each(func(i api.Insn) {
		x, e := told(byOp[i.Op], i)
		f(i, x, e)
	})
}

func TestNamesAreTheChaptersNumbers(t *testing.T) {
	for k, class := range []int{insn.Alu, insn.Swap, insn.Load, insn.Store, insn.StoreImm, insn.Jump, insn.Goto, insn.Call, insn.Exit, insn.Const, insn.Ref} {
		if class != k+1 {
			t.Errorf("class %d is named %d", k+1, class)
		}
	}
}
