package verify_test

import (
	"fmt"
	"math/rand"
	"slices"
	"strings"
	"testing"

	"stockade/api"
	"stockade/insn"
	"stockade/shape"
)

func pick[T any](chance *rand.Rand, l ...T) T { return l[chance.Intn(len(l))] }

// number: one of the registers that are numbers between two bits of a program; register 9 is the Ctx there, all others are whatever they are.
func number(chance *rand.Rand) string { return pick(chance, "r0", "r6", "r7", "r8") }

func constant(chance *rand.Rand) int32 {
	return pick(chance, 0, 1, 2, 7, 60, 255, -1, 1<<31-1, -1<<31, int32(chance.Intn(100)), int32(chance.Uint32()))
}

func aluName(chance *rand.Rand) string {
	return pick(chance, "add", "sub", "mul", "div", "or", "and", "lsh", "rsh", "mod", "xor", "mov", "arsh") + pick(chance, "64", "64", "32")
}

func jumpName(chance *rand.Rand) string {
	return pick(chance, "jeq", "jgt", "jge", "jset", "jne", "jsgt", "jsge", "jlt", "jle", "jslt", "jsle") + pick(chance, "64", "64", "32")
}

// bit: some instructions that belong together, and are safe wherever they stand.
func bit(chance *rand.Rand) string {
	n, m := number(chance), number(chance)
	switch chance.Intn(8) {
	case 0:
		return fmt.Sprintf("%s %s, %d\n", aluName(chance), n, constant(chance))
	case 1:
		return fmt.Sprintf("%s %s, %s\n", aluName(chance), n, m)
	case 2:
		return fmt.Sprintf(pick(chance, "swap16 %s\n", "swap64 %s\n", "neg32 %s\n", "neg64 %s\n", "const %s, 1311768467463790320\n", "load32 %s, r9+4\n", "load32 %s, r9+0\n", "call 5\nmov64 %s, r0\n", "call 7\nmov64 %s, r0\n"), n)
	case 3:
		return onStack(chance, n, m)
	case 4:
		return onPacket(chance, n, m)
	case 5:
		return onMap(chance, n, m)
	}
	return turn(chance, n, m)
}

func onStack(chance *rand.Rand, n, m string) string {
	k := chance.Intn(4)
	size, off := 8<<k, -(16 + 1<<k*(1+chance.Intn(64>>k)))
	switch chance.Intn(4) {
	case 0:
		return fmt.Sprintf("store%d r10%d, %s\nload%d %s, r10%d\n", size, off, n, size, m, off)
	case 1:
		return fmt.Sprintf("mov64 r3, r10\nsub64 r3, 128\nput%d r3%+d, %d\nload%d %s, r3%+d\n", size, 128+off, constant(chance), size, m, 128+off)
	case 2:
		return fmt.Sprintf("store64 r10-96, r9\nload64 r5, r10-96\nload32 %s, r5+0\n", m)
	}
	return fmt.Sprintf("put64 r10-104, 7\nstore%d r10-104, %s\nload8 %s, r10-%d\n", size, n, m, 97+chance.Intn(8))
}

func onPacket(chance *rand.Rand, n, m string) string {
	long, k := 1+chance.Intn(80), chance.Intn(4)
	at := max(0, long-1<<k)
	long = max(long, 1<<k)
	start := "load32 r2, r9+0\nload64 r3, r9+8\n"
	switch chance.Intn(4) {
	case 0:
		return start + fmt.Sprintf("jlt64 r2, %d, +1\nload%d %s, r3+%d\n", long, 8<<k, n, at)
	case 1:
		return start + fmt.Sprintf("jgt64 r2, %d, +1\ngoto +1\nstore%d r3+%d, %s\n", long-1, 8<<k, at, n)
	case 2:
		return start + fmt.Sprintf("mov64 r4, %s\nand64 r4, 15\njle64 r2, %d, +2\nadd64 r3, r4\nload%d %s, r3+0\n", n, 15+1<<k, 8<<k, m)
	}
	return start + fmt.Sprintf("mov64 r4, %d\njge64 r4, r2, +2\nadd64 r4, r3\nload8 %s, r4+0\n", chance.Intn(90), m)
}

func onMap(chance *rand.Rand, n, m string) string {
	of := chance.Intn(4)
	have := four()[of]
	start := fmt.Sprintf("mov64 r4, %s\nand64 r4, %d\nput64 r10-8, 0\nput64 r10-16, 0\nstore8 r10-16, r4\nmov64 r2, r10\nadd64 r2, -16\n", n, pick(chance, 0, 1, 3))
	for at := range have.Value / 8 {
		start += fmt.Sprintf("put64 r10-%d, %d\n", 256+8*at, constant(chance))
	}
	start += fmt.Sprintf("put64 r10-320, 4\nmov64 r3, r10\nadd64 r3, -320\n")
	for at := 256; at < 320; at += 8 {
		start += fmt.Sprintf("put64 r10-%d, 5\n", at)
	}
	start += fmt.Sprintf("map r1, %d\n", of)
	switch chance.Intn(5) {
	case 0:
		return start + "call 2\n"
	case 1:
		return start + "call 3\n"
	case 2:
		return start + fmt.Sprintf("call 1\nmov64 r5, r0\nmov64 r0, 3\njne64 r5, 0, +1\ngoto +2\nload8 %s, r5+%d\nstore16 r5+0, %s\n", n, chance.Intn(have.Value), n)
	}
	return start + fmt.Sprintf("call 1\nmov64 r5, r0\nmov64 r0, %d\njeq64 r5, 0, +3\nmov64 r4, %s\nand64 r4, %d\nadd64 r5, r4\njeq64 r5, 0, +1\nstore8 r5+0, %s\n", constant(chance), n, have.Value-1, m)
}

// turn: where ways part.
func turn(chance *rand.Rand, n, m string) string {
	j := fmt.Sprintf("%s %s, %d", jumpName(chance), n, constant(chance))
	if chance.Intn(3) == 0 {
		j = fmt.Sprintf("%s %s, %s", jumpName(chance), n, m)
	}
	switch chance.Intn(6) {
	case 0:
		return j + fmt.Sprintf(", +2\nmov64 %s, %d\nexit\n", pick(chance, n, m, "r0"), chance.Intn(5))
	case 1:
		return j + ", +2\nmov64 r5, 1\ngoto +1\nmov64 r4, r9\n"
	case 2:
		return j + fmt.Sprintf(", +1\n%s %s, %d\n", aluName(chance), m, constant(chance))
	}
	return j + ", +0\n" // wherever it is led to: see joined
}

// joined: the instructions of some bits, one behind the other; jumps to the next place lead on to where some bit begins.
func joined(t *testing.T, chance *rand.Rand, bits []string) []api.Insn {
	t.Helper()
	var begin, jumps []int
	var code []api.Insn
	for _, b := range bits {
		begin = append(begin, len(code))
		code = append(code, image(t, b).Code...)
	}
	for at, i := range code {
		if w, _ := insn.Of(i); w.Class == insn.Jump && i.Off == 0 && chance.Intn(4) > 0 {
			jumps = append(jumps, at)
		}
	}
	for _, at := range jumps {
		n, _ := slices.BinarySearch(begin, at+1)
		if n < len(begin) {
			code[at].Off = int16(begin[min(len(begin)-1, n+chance.Intn(4))] - at - 1)
		}
	}
	return code
}

// program: one of so many bits that is mostly let through.
func program(t *testing.T, chance *rand.Rand, bits int) []api.Insn {
	t.Helper()
	l := []string{"mov64 r9, r1\nmov64 r0, 0\nmov64 r6, 1\nload32 r7, r1+4\nload32 r8, r1+0\n"}
	for range bits {
		l = append(l, bit(chance))
	}
	return joined(t, chance, append(l, pick(chance, "exit\n", "mov64 r0, r7\nexit\n", "add64 r0, r8\nexit\n")))
}

// line: a program without jumps.
func line(t *testing.T, chance *rand.Rand, bits int) []api.Insn {
	t.Helper()
	l := []string{"mov64 r9, r1\nmov64 r0, 0\nmov64 r6, 1\nload32 r7, r1+4\nload32 r8, r1+0\n"}
	for len(l) <= bits {
		if b := bit(chance); !strings.Contains(b, "\nj") && b[0] != 'j' {
			l = append(l, b)
		}
	}
	return joined(t, chance, append(l, "exit\n"))
}

// wrong: a program with something changed, often no more let through; seldom no more put together rightly.
func wrong(chance *rand.Rand, code []api.Insn) []api.Insn {
	for {
		l := changed(chance, code)
		if _, e := shape.Check(api.Image{Maps: four(), Code: l}); e == 0 || chance.Intn(8) == 0 {
			return l
		}
	}
}

func changed(chance *rand.Rand, code []api.Insn) []api.Insn {
	code = slices.Clone(code)
	at := chance.Intn(len(code))
	i := &code[at]
	switch chance.Intn(12) {
	case 0:
		*i = api.Insn{Op: 0xb7, Dst: byte(chance.Intn(10)), Imm: constant(chance)}
	case 1:
		*i = api.Insn{Op: 0xbf, Dst: byte(chance.Intn(10)), Src: byte(chance.Intn(11))}
	case 2:
		*i = pick(chance, api.Insn{Op: 0x95}, api.Insn{Op: 0x05, Off: int16(chance.Intn(7) - 2)})
	case 3, 4:
		i.Off += int16(pick(chance, -8, -2, -1, 1, 2, 4, 8, 100))
	case 5:
		i.Imm += pick[int32](chance, -8, -1, 1, 8, 1<<20, 1<<30)
	case 6:
		i.Dst = byte(chance.Intn(11))
	case 7:
		i.Src = byte(chance.Intn(11))
	case 8:
		i.Op ^= pick[byte](chance, 0x08, 0x10, 0x18, 0x20, 0x40, 0x80, 0x01)
	case 9:
		code = slices.Delete(code, at, at+1)
	case 10:
		return slices.Insert(code, at, pick(chance, api.Insn{Op: 0x95}, api.Insn{Op: 0x7b, Dst: 10, Src: 9, Off: -16}, api.Insn{Op: 0x0f, Dst: byte(chance.Intn(10)), Src: 6}, api.Insn{Op: 0x72, Dst: 9, Imm: 1}, api.Insn{Op: 0x07, Dst: 3, Imm: 1 << 20}))
	default:
		for k, x := range code { // as if nobody looked
			if w, _ := insn.Of(x); w.Class == insn.Jump && chance.Intn(2) == 0 {
				code[k] = api.Insn{Op: 0xb7, Dst: 4}
			}
		}
	}
	return code
}
