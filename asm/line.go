package asm

import (
	"strconv"
	"strings"

	"stockade/api"
	"stockade/insn"
)

const (
	end    = "\n"
	neg    = 8 // the Op of an Alu that looks at one number only
	digits = "0123456789"

	noLine = api.ErrForm // thrown where a line is none
)

// The names of an Alu and of a Jump, by Op, and of all else, by class. What has no name is no instruction, or has it in another array.
var (
	aluNames   = [13]string{"add", "sub", "mul", "div", "or", "and", "lsh", "rsh", "neg", "mod", "xor", "mov", "arsh"}
	jumpNames  = [14]string{"", "jeq", "jgt", "jge", "jset", "jne", "jsgt", "jsge", "", "", "jlt", "jle", "jslt", "jsle"}
	classNames = [12]string{"", "", "swap", "load", "store", "put", "", "goto", "call", "exit", "const", "map"}
)

// name tells the first word of the line of what an instruction is.
func name(w insn.What) string {
	switch w.Class {
	case insn.Alu:
		return aluNames[w.Op] + bits(w.Wide)
	case insn.Jump:
		return jumpNames[w.Op] + bits(w.Wide)
	case insn.Swap, insn.Load, insn.Store, insn.StoreImm:
		return classNames[w.Class] + strconv.Itoa(8*w.Size)
	}
	return classNames[w.Class]
}

func bits(wide bool) string {
	if wide {
		return "64"
	}
	return "32"
}

// operands tells what stands behind the name, in the chapter's letters; one form for both ways, so that what is written is read.
func operands(w insn.What) string {
	switch w.Class {
	case insn.Alu:
		switch {
		case w.Op == neg:
			return " d"
		case w.Reg:
			return " d, s"
		}
		return " d, i"
	case insn.Swap:
		return " d"
	case insn.Load:
		return " d, so"
	case insn.Store:
		return " do, s"
	case insn.StoreImm:
		return " do, i"
	case insn.Jump:
		if w.Reg {
			return " d, s, o"
		}
		return " d, i, o"
	case insn.Goto:
		return " o"
	case insn.Call:
		return " i"
	case insn.Const:
		return " d, n"
	case insn.Ref:
		return " d, i"
	}
	return ""
}

// write tells the line, but for its end, of the instruction at l's beginning; l is all of its places.
func write(w insn.What, l []api.Insn) string {
	i, line := l[0], name(w)
	for _, c := range operands(w) {
		switch c {
		case 'd':
			line += register(i.Dst)
		case 's':
			line += register(i.Src)
		case 'i':
			line += strconv.Itoa(int(i.Imm))
		case 'o':
			line += offset(i.Off)
		case 'n':
			line += strconv.FormatUint(uint64(uint32(l[1].Imm))<<32|uint64(uint32(i.Imm)), 10)
		default:
			line += string(c)
		}
	}
	return line
}

func register(r byte) string { return "r" + strconv.Itoa(int(r)) }

func offset(o int16) string {
	if o < 0 {
		return strconv.Itoa(int(o))
	}
	return "+" + strconv.Itoa(int(o))
}

// read tells the places of the instruction whose line this is, but for its end.
func read(line string) []api.Insn {
	word, _, _ := strings.Cut(line, " ")
	w := what(word)
	if w.Class == insn.Alu || w.Class == insn.Jump {
		w.Reg = strings.Contains(line, ", r") // the name does not tell it
	}
	var i api.Insn
	var n uint64
	t := text{line[len(word):]}
	for _, c := range operands(w) {
		switch c {
		case 'd':
			i.Dst = t.register()
		case 's':
			i.Src = t.register()
		case 'i':
			i.Imm = t.constant()
		case 'o':
			i.Off = t.offset()
		case 'n':
			n = t.upTo(1<<64 - 1)
			i.Imm = int32(uint32(n))
		default:
			t.skip(string(c))
		}
	}
	i, e := insn.Make(w, i)
	if t.rest != "" || e != api.OK {
		panic(noLine)
	}
	if insn.Places(i) == 2 {
		return []api.Insn{i, {Imm: int32(uint32(n >> 32))}}
	}
	return []api.Insn{i}
}

// what tells what the instruction is whose line begins with this word, but whether Src takes part.
func what(word string) insn.What {
	letters := strings.TrimRight(word, digits)
	w, size := named(letters), word[len(letters):]
	switch w.Class {
	case insn.Alu, insn.Jump:
		w.Wide = size == bits(true)
	case insn.Swap, insn.Load, insn.Store, insn.StoreImm:
		n, _ := strconv.Atoi(size)
		w.Size = n / 8
	}
	if name(w) != word {
		panic(noLine)
	}
	return w
}

// named tells the class and the Op by the letters of a name.
func named(letters string) insn.What {
	for op, n := range aluNames {
		if n == letters {
			return insn.What{Class: insn.Alu, Op: op}
		}
	}
	for op, n := range jumpNames {
		if n == letters {
			return insn.What{Class: insn.Jump, Op: op}
		}
	}
	for class, n := range classNames {
		if n == letters {
			return insn.What{Class: class}
		}
	}
	panic(noLine)
}
