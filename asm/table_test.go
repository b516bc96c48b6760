package asm_test

import (
	"fmt"
	"math"
	"math/rand"
	"regexp"
	"slices"
	"strconv"
	"strings"

	"stockade/api"
)

// The chapter's table, held apart from the package: one form for writing (by fmt) and one for reading (by regexp).

var (
	aluNames  = strings.Fields("add sub mul div or and lsh rsh neg mod xor mov arsh")
	jumpNames = strings.Fields("- jeq jgt jge jset jne jsgt jsge - - jlt jle jslt jsle")
)

// sizes by the Op of a load, a store or a put.
var sizes = map[byte]int{0x61: 32, 0x69: 16, 0x71: 8, 0x79: 64, 0x62: 32, 0x6a: 16, 0x72: 8, 0x7a: 64, 0x63: 32, 0x6b: 16, 0x73: 8, 0x7b: 64}

// lineOf: the line of an instruction that there is, with its end; half is what stands behind it.
func lineOf(i, half api.Insn) string {
	switch i.Op {
	case 0xd7:
		return fmt.Sprintf("swap%d r%d\n", i.Imm, i.Dst)
	case 0x61, 0x69, 0x71, 0x79:
		return fmt.Sprintf("load%d r%d, r%d%+d\n", sizes[i.Op], i.Dst, i.Src, i.Off)
	case 0x63, 0x6b, 0x73, 0x7b:
		return fmt.Sprintf("store%d r%d%+d, r%d\n", sizes[i.Op], i.Dst, i.Off, i.Src)
	case 0x62, 0x6a, 0x72, 0x7a:
		return fmt.Sprintf("put%d r%d%+d, %d\n", sizes[i.Op], i.Dst, i.Off, i.Imm)
	case 0x05:
		return fmt.Sprintf("goto %+d\n", i.Off)
	case 0x85:
		return fmt.Sprintf("call %d\n", i.Imm)
	case 0x95:
		return "exit\n"
	case 0x18:
		if i.Src == 1 {
			return fmt.Sprintf("map r%d, %d\n", i.Dst, i.Imm)
		}
		return fmt.Sprintf("const r%d, %d\n", i.Dst, uint64(uint32(half.Imm))<<32+uint64(uint32(i.Imm)))
	}
	bits := 32
	if i.Op%16 == 7 || i.Op%16 == 15 || i.Op%16 == 5 || i.Op%16 == 13 {
		bits = 64
	}
	by := fmt.Sprint(i.Imm)
	if i.Op&8 != 0 {
		by = fmt.Sprintf("r%d", i.Src)
	}
	switch {
	case i.Op == 0x84 || i.Op == 0x87:
		return fmt.Sprintf("neg%d r%d\n", bits, i.Dst)
	case i.Op%8 == 4 || i.Op%8 == 7:
		return fmt.Sprintf("%s%d r%d, %s\n", aluNames[i.Op/16], bits, i.Dst, by)
	}
	return fmt.Sprintf("%s%d r%d, %s, %+d\n", jumpNames[i.Op/16], bits, i.Dst, by, i.Off)
}

const (
	written = `r([0-9])`
	read    = `r([0-9]|10)`
	number  = `(0|-?[1-9][0-9]*)`
	plain   = `(0|[1-9][0-9]*)`
	offset  = `(\+0|[+-][1-9][0-9]*)`
	size    = `(8|16|32|64)`
	alu     = `(add|sub|mul|div|or|and|lsh|rsh|mod|xor|mov|arsh)(32|64) `
	jump    = `(jeq|jgt|jge|jset|jne|jsgt|jsge|jlt|jle|jslt|jsle)(32|64) `
)

// forms: each form of a line, and in which order it has its parts: z size, p operation and bits, d, s, i, o, n as the chapter.
var forms = []struct {
	re    *regexp.Regexp
	parts string
	op    int
}{
	{form(alu + written + `, ` + number), "pbdi", 0x04},
	{form(alu + written + `, ` + read), "pbds", 0x0c},
	{form(`(neg)(32|64) ` + written), "pbd", 0x04},
	{form(`swap(16|32|64) ` + written), "id", 0xd7},
	{form(`load` + size + ` ` + written + `, ` + read + offset), "zdso", 0x61},
	{form(`store` + size + ` ` + read + offset + `, ` + read), "zdos", 0x63},
	{form(`put` + size + ` ` + read + offset + `, ` + number), "zdoi", 0x62},
	{form(jump + read + `, ` + number + `, ` + offset), "jbdio", 0x06},
	{form(jump + read + `, ` + read + `, ` + offset), "jbdso", 0x0e},
	{form(`goto ` + offset), "o", 0x05},
	{form(`call ` + number), "i", 0x85},
	{form(`exit`), "", 0x95},
	{form(`const ` + written + `, ` + plain), "dn", 0x18},
	{form(`map ` + written + `, ` + number), "di", 0x118},
}

func form(s string) *regexp.Regexp { return regexp.MustCompile(`^` + s + `\n$`) }

// codeOf: the code of a line, if it is one.
func codeOf(line string) ([]api.Insn, bool) {
	for _, f := range forms {
		if found := f.re.FindStringSubmatch(line); found != nil {
			return codeBy(f.parts, f.op, found[1:])
		}
	}
	return nil, false
}

func codeBy(parts string, op int, found []string) ([]api.Insn, bool) {
	i, half, fits := api.Insn{Src: byte(op >> 8)}, api.Insn{}, true
	whole := func(s string, bits int) int64 {
		n, e := strconv.ParseInt(s, 10, bits)
		fits = fits && e == nil
		return n
	}
	for k, s := range found {
		switch parts[k] {
		case 'p':
			op += 16 * slices.Index(aluNames, s)
		case 'j':
			op += 16 * slices.Index(jumpNames, s)
		case 'b':
			if s == "64" {
				op += map[int]int{4: 3, 6: -1}[op&7]
			}
		case 'z':
			op += map[string]int{"32": 0, "16": 8, "8": 16, "64": 24}[s]
		case 'd':
			i.Dst = byte(whole(s, 8))
		case 's':
			i.Src = byte(whole(s, 8))
		case 'i':
			i.Imm = int32(whole(s, 32))
		case 'o':
			i.Off = int16(whole(s, 16))
		case 'n':
			n, e := strconv.ParseUint(s, 10, 64)
			fits = fits && e == nil
			i.Imm, half.Imm = int32(uint32(n)), int32(uint32(n>>32))
		}
	}
	i.Op = byte(op)
	if !fits {
		return nil, false
	}
	if i.Op == 0x18 {
		return []api.Insn{i, half}, true
	}
	return []api.Insn{i}, true
}

// all Ops of instructions that there are.
func allOps() []byte {
	l := []byte{0x05, 0x85, 0x95, 0x18, 0xd7}
	for op := range sizes {
		l = append(l, op)
	}
	for k := range aluNames {
		l = append(l, byte(16*k+4), byte(16*k+7))
		if k != 8 {
			l = append(l, byte(16*k+12), byte(16*k+15))
		}
	}
	for k, n := range jumpNames {
		if n != "-" {
			l = append(l, byte(16*k+5), byte(16*k+6), byte(16*k+13), byte(16*k+14))
		}
	}
	slices.Sort(l)
	return l
}

var (
	offs = []int16{0, 1, -1, 9, 10, -10, 100, 255, -256, math.MaxInt16, math.MinInt16, math.MinInt16 + 1}
	imms = []int32{0, 1, -1, 5, 10, -10, 16, 32, 64, 99, 1000, 1 << 16, math.MaxInt32, math.MinInt32, math.MinInt32 + 1}
)

func pick[T any](chance *rand.Rand, l []T) T { return l[chance.Intn(len(l))] }

// some: an instruction that there is, whole, of any kind.
func some(chance *rand.Rand, ops []byte) []api.Insn {
	op := pick(chance, ops)
	i := api.Insn{Op: op, Dst: byte(chance.Intn(10))}
	off, imm, src := pick(chance, offs), pick(chance, imms), byte(chance.Intn(11))
	if chance.Intn(2) == 0 {
		off, imm = int16(chance.Uint32()), int32(chance.Uint32())
	}
	_, memory := sizes[op]
	switch {
	case op == 0x05:
		i.Dst, i.Off = 0, off
	case op == 0x85:
		i.Dst, i.Imm = 0, imm
	case op == 0x95:
		i.Dst = 0
	case op == 0xd7:
		i.Imm = pick(chance, []int32{16, 32, 64})
	case op == 0x18:
		i.Src, i.Imm = byte(chance.Intn(2)), imm
		half := api.Insn{}
		if i.Src == 0 {
			half.Imm = pick(chance, []int32{0, 1, -1, math.MinInt32, int32(chance.Uint32())})
		}
		return []api.Insn{i, half}
	case memory && op%8 == 2:
		i.Dst, i.Off, i.Imm = src, off, imm
	case memory && op%8 == 3:
		i.Dst, i.Src, i.Off = byte(chance.Intn(11)), src, off
	case memory:
		i.Src, i.Off = src, off
	case op == 0x84 || op == 0x87:
	case op&8 != 0:
		i.Src = src
	default:
		i.Imm = imm
	}
	if op%8 == 5 && op != 0x05 && op != 0x85 && op != 0x95 || op%8 == 6 {
		i.Dst, i.Off = byte(chance.Intn(11)), off
	}
	return []api.Insn{i}
}

// program: some instructions, n places at most.
func program(chance *rand.Rand, ops []byte, n int) []api.Insn {
	var l []api.Insn
	for {
		i := some(chance, ops)
		if len(l)+len(i) > n {
			return l
		}
		l = append(l, i...)
	}
}

func textOf(code []api.Insn) string {
	var s strings.Builder
	for p := 0; p < len(code); p++ {
		half := api.Insn{}
		if code[p].Op == 0x18 {
			half = code[p+1]
		}
		s.WriteString(lineOf(code[p], half))
		if code[p].Op == 0x18 {
			p++
		}
	}
	return s.String()
}
