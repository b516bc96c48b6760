package asm_test

import (
	"math"
	"math/rand"
	"slices"
	"strings"
	"testing"

	"stockade/api"
	"stockade/asm"
	"stockade/insn"
)

// rows: the chapter's examples, and lines of each kind.
func rows() []struct {
	code []api.Insn
	text string
} {
	return []struct {
		code []api.Insn
		text string
	}{
		{nil, ""},
		{[]api.Insn{{Op: 0xb7, Dst: 1, Imm: -5}}, "mov64 r1, -5\n"},
		{[]api.Insn{{Op: 0x0c, Dst: 9, Src: 10}, {Op: 0x84, Dst: 2}}, "add32 r9, r10\nneg32 r2\n"},
		{[]api.Insn{{Op: 0xd7, Dst: 3, Imm: 16}}, "swap16 r3\n"},
		{[]api.Insn{{Op: 0x61, Dst: 1, Src: 2, Off: 4}, {Op: 0x73, Dst: 10, Src: 1, Off: -8}, {Op: 0x7a, Dst: 10, Imm: 7}}, "load32 r1, r2+4\nstore8 r10-8, r1\nput64 r10+0, 7\n"},
		{[]api.Insn{{Op: 0x15, Dst: 1, Off: 3}, {Op: 0x2e, Dst: 1, Src: 2, Off: -1}}, "jeq64 r1, 0, +3\njgt32 r1, r2, -1\n"},
		{[]api.Insn{{Op: 0x05, Off: 2}, {Op: 0x85, Imm: 1}, {Op: 0x95}}, "goto +2\ncall 1\nexit\n"},
		{[]api.Insn{{Op: 0x18, Dst: 1, Imm: -1}, {Imm: 1}, {Op: 0x18, Dst: 2, Src: 1}, {}}, "const r1, 8589934591\nmap r2, 0\n"},
		{[]api.Insn{{Op: 0x87, Dst: 9}, {Op: 0xd7, Imm: 64}, {Op: 0xd7, Imm: 32}}, "neg64 r9\nswap64 r0\nswap32 r0\n"},
		{[]api.Insn{{Op: 0x18}, {}, {Op: 0x18}, {Imm: 1}, {Op: 0x18, Imm: 1}, {}}, "const r0, 0\nconst r0, 4294967296\nconst r0, 1\n"},
		{[]api.Insn{{Op: 0x18, Dst: 9, Imm: -1}, {Imm: -1}, {Op: 0x18, Imm: math.MinInt32}, {Imm: math.MinInt32}}, "const r9, 18446744073709551615\nconst r0, 9223372039002259456\n"},
		{[]api.Insn{{Op: 0x18, Src: 1, Imm: -1}, {}, {Op: 0x18, Src: 1, Imm: math.MaxInt32}, {}}, "map r0, -1\nmap r0, 2147483647\n"},
		{[]api.Insn{{Op: 0x85, Imm: math.MinInt32}, {Op: 0x05}, {Op: 0x05, Off: math.MinInt16}, {Op: 0x05, Off: math.MaxInt16}}, "call -2147483648\ngoto +0\ngoto -32768\ngoto +32767\n"},
		{[]api.Insn{{Op: 0xd5, Dst: 10, Imm: -7, Off: -9}, {Op: 0xde, Dst: 10, Src: 10}}, "jsle64 r10, -7, -9\njsle32 r10, r10, +0\n"},
		{[]api.Insn{{Op: 0x72, Dst: 10, Off: -1, Imm: -1}, {Op: 0x6a, Off: 1}, {Op: 0x62, Imm: 2}}, "put8 r10-1, -1\nput16 r0+1, 0\nput32 r0+0, 2\n"},
		{[]api.Insn{{Op: 0x71, Src: 10}, {Op: 0x69, Dst: 9, Src: 1, Off: -2}, {Op: 0x79}, {Op: 0x7b, Dst: 10, Src: 10, Off: -512}}, "load8 r0, r10+0\nload16 r9, r1-2\nload64 r0, r0+0\nstore64 r10-512, r10\n"},
	}
}

func TestP3_1_Rows(t *testing.T) {
	for _, x := range rows() {
		if s, e := asm.Print(x.code); s != x.text || e != api.OK {
			t.Errorf("%+v: %q, %d, not %q", x.code, s, e, x.text)
		}
	}
}

func TestP3_1_Names(t *testing.T) {
	want := "add32 r1, 2\nsub32 r1, 2\nmul32 r1, 2\ndiv32 r1, 2\nor32 r1, 2\nand32 r1, 2\nlsh32 r1, 2\nrsh32 r1, 2\nneg32 r1\nmod32 r1, 2\nxor32 r1, 2\nmov32 r1, 2\narsh32 r1, 2\n" +
		"jeq64 r1, 2, +3\njgt64 r1, 2, +3\njge64 r1, 2, +3\njset64 r1, 2, +3\njne64 r1, 2, +3\njsgt64 r1, 2, +3\njsge64 r1, 2, +3\njlt64 r1, 2, +3\njle64 r1, 2, +3\njslt64 r1, 2, +3\njsle64 r1, 2, +3\n"
	var code []api.Insn
	for op := range 13 {
		i := api.Insn{Op: byte(16*op + 4), Dst: 1, Imm: 2}
		if op == 8 {
			i.Imm = 0
		}
		code = append(code, i)
	}
	for _, op := range []byte{1, 2, 3, 4, 5, 6, 7, 10, 11, 12, 13} {
		code = append(code, api.Insn{Op: 16*op + 5, Dst: 1, Imm: 2, Off: 3})
	}
	if s, e := asm.Print(code); s != want || e != api.OK {
		t.Errorf("%q, %d", s, e)
	}
}

// Every instruction alone, and what Of refuses.
func TestP3_1_Table(t *testing.T) {
	for op := range 256 {
		for _, regs := range [][2]byte{{0, 0}, {1, 2}, {9, 10}, {10, 9}, {10, 10}, {11, 0}, {0, 11}, {3, 1}, {255, 255}, {0, 1}, {9, 1}} {
			for _, off := range offs {
				for _, imm := range imms {
					i := api.Insn{Op: byte(op), Dst: regs[0], Src: regs[1], Off: off, Imm: imm}
					code := []api.Insn{i}
					if op == 0x18 {
						code = append(code, api.Insn{})
					}
					_, e := insn.Of(i)
					want := ""
					if e == api.OK {
						want = lineOf(i, api.Insn{})
					}
					if s, f := asm.Print(code); s != want || f != e {
						t.Fatalf("%+v: %q, %d, not %q, %d", i, s, f, want, e)
					}
				}
			}
		}
	}
}

func TestP3_1_Programs(t *testing.T) {
	chance, ops := rand.New(rand.NewSource(31)), allOps()
	for n := range 300 {
		code := program(chance, ops, 1+n%512)
		was := slices.Clone(code)
		want := textOf(code)
		if s, e := asm.Print(code); s != want || e != api.OK {
			t.Fatalf("%+v: %q, %d, not %q", code, s, e, want)
		}
		if !slices.Equal(code, was) {
			t.Fatal("what was handed in is changed")
		}
	}
}

func TestP3_1_Refused(t *testing.T) {
	exit, wide, half := api.Insn{Op: 0x95}, api.Insn{Op: 0x18}, api.Insn{}
	ref := api.Insn{Op: 0x18, Src: 1}
	for n, x := range []struct {
		code []api.Insn
		want api.Errno
	}{
		{[]api.Insn{exit, {}}, api.ErrOp},
		{[]api.Insn{exit, {Op: 0x18, Src: 2}, half}, api.ErrOp},
		{[]api.Insn{{Op: 0xb7, Dst: 10}}, api.ErrReg},
		{[]api.Insn{exit, {Op: 0x95, Imm: 1}}, api.ErrZero},
		{[]api.Insn{wide}, api.ErrWide},
		{[]api.Insn{ref}, api.ErrWide},
		{[]api.Insn{exit, wide}, api.ErrWide},
		{[]api.Insn{wide, exit}, api.ErrWide},
		{[]api.Insn{wide, wide, half}, api.ErrWide},
		{[]api.Insn{wide, {Dst: 1}}, api.ErrWide},
		{[]api.Insn{wide, {Src: 1}}, api.ErrWide},
		{[]api.Insn{wide, {Off: 1}}, api.ErrWide},
		{[]api.Insn{wide, {Off: -1, Imm: 3}}, api.ErrWide},
		{[]api.Insn{ref, {Dst: 1}}, api.ErrWide},
		{[]api.Insn{ref, {Src: 1}}, api.ErrWide},
		{[]api.Insn{ref, {Off: 1}}, api.ErrWide},
		{[]api.Insn{ref, {Imm: 1}}, api.ErrWide},
		{[]api.Insn{ref, {Imm: -1}}, api.ErrWide},
		// what is wrong with the first half goes ahead: it is none yet
		{[]api.Insn{{Op: 0x18, Dst: 10}}, api.ErrReg},
		{[]api.Insn{{Op: 0x18, Off: 1}, exit}, api.ErrZero},
		// whichever stands first
		{[]api.Insn{wide, {Op: 0x95}, {}}, api.ErrWide},
		{[]api.Insn{{}, wide}, api.ErrOp},
		{[]api.Insn{exit, {Op: 0x95, Off: 1}, {}, wide}, api.ErrZero},
		{[]api.Insn{wide, half, {Op: 0xb7, Src: 1}, {Op: 0xb7, Dst: 10}}, api.ErrZero},
		{[]api.Insn{wide, half, half}, api.ErrOp},
	} {
		if s, e := asm.Print(x.code); s != "" || e != x.want {
			t.Errorf("%d: %q, %d, not %d", n, s, e, x.want)
		}
	}
}

// What lies in the room behind the end is no second half.
func TestP3_1_RoomBehind(t *testing.T) {
	room := []api.Insn{{Op: 0x95}, {Op: 0x18}, {Imm: 7}}
	if s, e := asm.Print(room[:2]); s != "" || e != api.ErrWide {
		t.Errorf("%q, %d", s, e)
	}
}

func TestP3_1_Length(t *testing.T) {
	exits := func(n int) []api.Insn { return slices.Repeat([]api.Insn{{Op: 0x95}}, n) }
	for _, x := range []struct {
		code []api.Insn
		want string
		e    api.Errno
	}{
		{exits(511), strings.Repeat("exit\n", 511), api.OK},
		{exits(512), strings.Repeat("exit\n", 512), api.OK},
		{exits(513), "", api.ErrLong},
		{append(exits(510), api.Insn{Op: 0x18}, api.Insn{}), strings.Repeat("exit\n", 510) + "const r0, 0\n", api.OK},
		{append(exits(511), api.Insn{Op: 0x18}), "", api.ErrWide},
		{append(exits(511), api.Insn{Op: 0x18}, api.Insn{}), "", api.ErrLong},
		{make([]api.Insn, 512), "", api.ErrOp},
		{make([]api.Insn, 513), "", api.ErrLong},
		{make([]api.Insn, 70000), "", api.ErrLong},
	} {
		if s, e := asm.Print(x.code); s != x.want || e != x.e {
			t.Errorf("%d places: %.40q, %d", len(x.code), s, e)
		}
	}
}
