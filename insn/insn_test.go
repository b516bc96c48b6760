package insn_test

import (
	"bytes"
	"encoding/binary"
	"math"
	"math/rand"
	"slices"
	"testing"

	"stockade/api"
	"stockade/insn"
)

func TestP2_1_Rows(t *testing.T) {
	for _, x := range []struct {
		i    api.Insn
		want insn.What
	}{
		{api.Insn{Op: 0xb7, Dst: 1, Imm: -5}, insn.What{Class: insn.Alu, Op: 11, Wide: true}},
		{api.Insn{Op: 0x04}, insn.What{Class: insn.Alu}},
		{api.Insn{Op: 0xc4, Dst: 9, Imm: 31}, insn.What{Class: insn.Alu, Op: 12}},
		{api.Insn{Op: 0xcf, Dst: 9, Src: 10}, insn.What{Class: insn.Alu, Op: 12, Wide: true, Reg: true}},
		{api.Insn{Op: 0x0c, Src: 10}, insn.What{Class: insn.Alu, Reg: true}},
		{api.Insn{Op: 0x84, Dst: 3}, insn.What{Class: insn.Alu, Op: 8}},
		{api.Insn{Op: 0x87, Dst: 3}, insn.What{Class: insn.Alu, Op: 8, Wide: true}},
		{api.Insn{Op: 0xd7, Imm: 16}, insn.What{Class: insn.Swap, Size: 2}},
		{api.Insn{Op: 0xd7, Dst: 9, Imm: 64}, insn.What{Class: insn.Swap, Size: 8}},
		{api.Insn{Op: 0x61, Src: 10, Off: -4}, insn.What{Class: insn.Load, Size: 4}},
		{api.Insn{Op: 0x71, Dst: 9, Src: 1, Off: math.MinInt16}, insn.What{Class: insn.Load, Size: 1}},
		{api.Insn{Op: 0x6b, Dst: 10, Src: 10, Off: math.MaxInt16}, insn.What{Class: insn.Store, Size: 2}},
		{api.Insn{Op: 0x7b, Dst: 10, Src: 1, Off: -8}, insn.What{Class: insn.Store, Size: 8}},
		{api.Insn{Op: 0x7a, Dst: 10, Off: -8, Imm: math.MinInt32}, insn.What{Class: insn.StoreImm, Size: 8}},
		{api.Insn{Op: 0x15, Dst: 10, Off: -1, Imm: -1}, insn.What{Class: insn.Jump, Op: 1, Wide: true}},
		{api.Insn{Op: 0xde, Dst: 10, Src: 10, Off: 1}, insn.What{Class: insn.Jump, Op: 13, Reg: true}},
		{api.Insn{Op: 0x05, Off: -3}, insn.What{Class: insn.Goto}},
		{api.Insn{Op: 0x85, Imm: -1}, insn.What{Class: insn.Call}},
		{api.Insn{Op: 0x95}, insn.What{Class: insn.Exit}},
		{api.Insn{Op: 0x18, Dst: 9, Imm: -1}, insn.What{Class: insn.Const}},
		{api.Insn{Op: 0x18, Src: 1, Imm: 3}, insn.What{Class: insn.Ref}},
	} {
		if w, e := insn.Of(x.i); w != x.want || e != api.OK {
			t.Errorf("Of(%+v): %+v, %d", x.i, w, e)
		}
	}
}

func TestP2_1_Refused(t *testing.T) {
	for _, x := range []struct {
		i    api.Insn
		want api.Errno
	}{
		{api.Insn{}, api.ErrOp}, {api.Insn{Op: 0x8f}, api.ErrOp}, {api.Insn{Op: 0x8c}, api.ErrOp}, {api.Insn{Op: 0xdc, Imm: 16}, api.ErrOp}, {api.Insn{Op: 0xd4, Imm: 16}, api.ErrOp}, {api.Insn{Op: 0xdf, Imm: 16}, api.ErrOp},
		{api.Insn{Op: 0x06}, api.ErrOp}, {api.Insn{Op: 0x0d}, api.ErrOp}, {api.Insn{Op: 0x86}, api.ErrOp}, {api.Insn{Op: 0x96}, api.ErrOp}, {api.Insn{Op: 0x8d}, api.ErrOp}, {api.Insn{Op: 0xe5}, api.ErrOp},
		{api.Insn{Op: 0x41}, api.ErrOp}, {api.Insn{Op: 0x81}, api.ErrOp}, {api.Insn{Op: 0x43}, api.ErrOp}, {api.Insn{Op: 0x60}, api.ErrOp}, {api.Insn{Op: 0x10}, api.ErrOp},
		{api.Insn{Op: 0x18, Src: 2}, api.ErrOp}, {api.Insn{Op: 0x18, Src: 255}, api.ErrOp},
		{api.Insn{Op: 0xd7}, api.ErrOp}, {api.Insn{Op: 0xd7, Imm: 8}, api.ErrOp}, {api.Insn{Op: 0xd7, Imm: 48}, api.ErrOp}, {api.Insn{Op: 0xd7, Imm: 128}, api.ErrOp}, {api.Insn{Op: 0xd7, Imm: -16}, api.ErrOp},
		// what is wrong with the Op goes ahead of the registers, these ahead of the noughts
		{api.Insn{Op: 0xd7, Dst: 10, Off: 1, Imm: 8}, api.ErrOp}, {api.Insn{Op: 0x18, Dst: 10, Src: 2, Off: 1}, api.ErrOp},
		{api.Insn{Op: 0xbf, Dst: 10, Src: 1, Off: 1, Imm: 1}, api.ErrReg}, {api.Insn{Op: 0xbf, Dst: 1, Src: 11, Off: 1}, api.ErrReg}, {api.Insn{Op: 0x18, Dst: 10, Off: 1}, api.ErrReg},
		{api.Insn{Op: 0xb7, Dst: 10}, api.ErrReg}, {api.Insn{Op: 0xd7, Dst: 10, Imm: 16}, api.ErrReg}, {api.Insn{Op: 0x87, Dst: 10}, api.ErrReg},
		{api.Insn{Op: 0x79, Src: 11}, api.ErrReg}, {api.Insn{Op: 0x79, Dst: 10, Src: 1}, api.ErrReg}, {api.Insn{Op: 0x7b, Dst: 11}, api.ErrReg}, {api.Insn{Op: 0x7b, Dst: 10, Src: 255}, api.ErrReg}, {api.Insn{Op: 0x7a, Dst: 16}, api.ErrReg},
		{api.Insn{Op: 0x15, Dst: 11}, api.ErrReg}, {api.Insn{Op: 0x1d, Dst: 1, Src: 11}, api.ErrReg}, {api.Insn{Op: 0x18, Dst: 10}, api.ErrReg}, {api.Insn{Op: 0x18, Dst: 10, Src: 1}, api.ErrReg},
		{api.Insn{Op: 0xb7, Src: 1}, api.ErrZero}, {api.Insn{Op: 0xb7, Src: 11}, api.ErrZero}, {api.Insn{Op: 0xb7, Off: -1}, api.ErrZero}, {api.Insn{Op: 0x0f, Off: 1}, api.ErrZero}, {api.Insn{Op: 0x0f, Imm: 1}, api.ErrZero}, {api.Insn{Op: 0x87, Imm: 1}, api.ErrZero}, {api.Insn{Op: 0x84, Src: 1}, api.ErrZero},
		{api.Insn{Op: 0xd7, Src: 1, Imm: 16}, api.ErrZero}, {api.Insn{Op: 0xd7, Off: 1, Imm: 16}, api.ErrZero},
		{api.Insn{Op: 0x79, Imm: 1}, api.ErrZero}, {api.Insn{Op: 0x7b, Imm: 1}, api.ErrZero}, {api.Insn{Op: 0x7a, Src: 1}, api.ErrZero},
		{api.Insn{Op: 0x15, Src: 1}, api.ErrZero}, {api.Insn{Op: 0x1d, Imm: 1}, api.ErrZero},
		{api.Insn{Op: 0x05, Dst: 1}, api.ErrZero}, {api.Insn{Op: 0x05, Src: 1}, api.ErrZero}, {api.Insn{Op: 0x05, Imm: 1}, api.ErrZero},
		{api.Insn{Op: 0x85, Dst: 1}, api.ErrZero}, {api.Insn{Op: 0x85, Src: 1}, api.ErrZero}, {api.Insn{Op: 0x85, Off: 1}, api.ErrZero},
		{api.Insn{Op: 0x95, Dst: 11}, api.ErrZero}, {api.Insn{Op: 0x95, Src: 11}, api.ErrZero}, {api.Insn{Op: 0x95, Off: 1}, api.ErrZero}, {api.Insn{Op: 0x95, Imm: 1}, api.ErrZero},
		{api.Insn{Op: 0x18, Off: 1}, api.ErrZero}, {api.Insn{Op: 0x18, Src: 1, Off: 1}, api.ErrZero},
	} {
		if w, e := insn.Of(x.i); w != (insn.What{}) || e != x.want {
			t.Errorf("Of(%+v): %+v, %d, not %d", x.i, w, e, x.want)
		}
	}
}

func TestP2_1_Table(t *testing.T) {
	eachTold(func(i api.Insn, x one, e api.Errno) {
		want := x.is
		if e != api.OK {
			want = insn.What{}
		}
		if w, f := insn.Of(i); w != want || f != e {
			t.Fatalf("Of(%+v): %+v, %d, not %+v, %d", i, w, f, want, e)
		}
	})
}

func TestP2_2_Rows(t *testing.T) {
	for _, x := range []struct {
		w       insn.What
		i, want api.Insn
		e       api.Errno
	}{
		{insn.What{Class: insn.Jump, Op: 5, Wide: true}, api.Insn{Dst: 3, Off: 7}, api.Insn{Op: 0x55, Dst: 3, Off: 7}, api.OK},
		{insn.What{Class: insn.Alu, Op: 11, Wide: true}, api.Insn{Op: 0xff, Dst: 1, Imm: -5}, api.Insn{Op: 0xb7, Dst: 1, Imm: -5}, api.OK},
		{insn.What{Class: insn.Swap, Size: 2}, api.Insn{Dst: 9, Imm: 7}, api.Insn{Op: 0xd7, Dst: 9, Imm: 16}, api.OK},
		{insn.What{Class: insn.Swap, Size: 8}, api.Insn{}, api.Insn{Op: 0xd7, Imm: 64}, api.OK},
		{insn.What{Class: insn.Const}, api.Insn{Dst: 2, Src: 200, Imm: -1}, api.Insn{Op: 0x18, Dst: 2, Imm: -1}, api.OK},
		{insn.What{Class: insn.Ref}, api.Insn{Dst: 2, Src: 7, Imm: 3}, api.Insn{Op: 0x18, Dst: 2, Src: 1, Imm: 3}, api.OK},
		{insn.What{Class: insn.Store, Size: 8}, api.Insn{Dst: 10, Src: 1, Off: -8}, api.Insn{Op: 0x7b, Dst: 10, Src: 1, Off: -8}, api.OK},
		{insn.What{Class: insn.Load, Size: 1}, api.Insn{Dst: 9, Src: 10, Off: -8}, api.Insn{Op: 0x71, Dst: 9, Src: 10, Off: -8}, api.OK},
		{insn.What{Class: insn.Exit}, api.Insn{Op: 0x18}, api.Insn{Op: 0x95}, api.OK},
		{insn.What{Class: insn.Alu, Op: 11, Wide: true}, api.Insn{Dst: 10, Src: 1}, api.Insn{}, api.ErrReg},
		{insn.What{Class: insn.Alu, Op: 11, Wide: true}, api.Insn{Src: 1}, api.Insn{}, api.ErrZero},
		{insn.What{Class: insn.Alu, Op: 8}, api.Insn{Imm: 1}, api.Insn{}, api.ErrZero},
		{insn.What{Class: insn.Swap, Size: 4}, api.Insn{Src: 1}, api.Insn{}, api.ErrZero},
		{insn.What{Class: insn.Const}, api.Insn{Dst: 10}, api.Insn{}, api.ErrReg},
		{insn.What{Class: insn.Exit}, api.Insn{Dst: 255}, api.Insn{}, api.ErrZero},
	} {
		if i, e := insn.Make(x.w, x.i); i != x.want || e != x.e {
			t.Errorf("Make(%+v, %+v): %+v, %d", x.w, x.i, i, e)
		}
	}
}

func TestP2_2_NoInstruction(t *testing.T) {
	for _, w := range []insn.What{
		{},
		{Class: insn.Alu, Op: 8, Reg: true},
		{Class: insn.Alu, Op: 8, Wide: true, Reg: true},
		{Class: insn.Alu, Op: 13, Wide: true},
		{Class: insn.Alu, Op: 13},
		{Class: insn.Alu, Op: 16},
		{Class: insn.Alu, Op: 1<<32 + 1},
		{Class: insn.Alu, Op: -1},
		{Class: insn.Alu, Size: 4},
		{Class: insn.Jump, Op: 0},
		{Class: insn.Jump, Op: 8, Wide: true},
		{Class: insn.Jump, Op: 9},
		{Class: insn.Jump, Op: 14},
		{Class: insn.Jump, Op: 17},
		{Class: insn.Jump, Op: 1, Size: 1},
		{Class: insn.Swap},
		{Class: insn.Swap, Size: 1},
		{Class: insn.Swap, Size: 3},
		{Class: insn.Swap, Size: 1<<29 + 2},
		{Class: insn.Swap, Size: 1<<61 + 2},
		{Class: insn.Swap, Size: -2},
		{Class: insn.Swap, Size: 2, Wide: true},
		{Class: insn.Load},
		{Class: insn.Load, Size: 3},
		{Class: insn.Load, Size: 16},
		{Class: insn.Load, Size: 4, Wide: true},
		{Class: insn.Store, Size: 8, Reg: true},
		{Class: insn.StoreImm, Size: 8, Op: 1},
		{Class: insn.Goto, Wide: true},
		{Class: insn.Call, Op: 8},
		{Class: insn.Exit, Op: 9},
		{Class: insn.Const, Size: 8},
		{Class: insn.Ref, Reg: true},
		{Class: 12}, {Class: -1}, {Class: 256 + insn.Exit}, {Class: math.MaxInt}, {Class: math.MinInt},
	} {
		for _, i := range []api.Insn{{}, {Src: 1}, {Op: 0x95}, {Dst: 10, Off: 1}, {Imm: 16}, {Dst: 255, Src: 255, Off: 1, Imm: 1}} {
			if j, e := insn.Make(w, i); j != (api.Insn{}) || e != api.ErrArg {
				t.Errorf("Make(%+v, %+v): %+v, %d", w, i, j, e)
			}
		}
	}
}

// whats: what instructions are, and much that none is.
func whats(f func(w insn.What)) {
	for class := -1; class <= 13; class++ {
		for op := -1; op <= 17; op++ {
			for _, size := range []int{-8, -1, 0, 1, 2, 3, 4, 5, 6, 7, 8, 9, 16, 32, 64, 1<<29 + 2} {
				for _, wide := range []bool{false, true} {
					f(insn.What{Class: class, Op: op, Size: size, Wide: wide})
					f(insn.What{Class: class, Op: op, Size: size, Wide: wide, Reg: true})
				}
			}
		}
	}
}

// made: what the chapter says of Make.
func made(l []one, w insn.What, i api.Insn) (api.Insn, api.Errno) {
	for _, x := range l {
		if x.is != w {
			continue
		}
		i.Op = x.op
		if n, is := number(x.src); is {
			i.Src = byte(n)
		}
		if n, is := number(x.imm); is {
			i.Imm = int32(n)
		}
		if e := x.may(i); e != api.OK {
			return api.Insn{}, e
		}
		return i, api.OK
	}
	return api.Insn{}, api.ErrArg
}

func TestP2_2_Table(t *testing.T) {
	l := every()
	whats(func(w insn.What) {
		for _, i := range []api.Insn{
			{}, {Op: 0x0f}, {Dst: 9}, {Dst: 10}, {Dst: 11}, {Src: 1}, {Src: 10}, {Src: 11}, {Off: 1}, {Off: -1}, {Imm: 1}, {Imm: -1}, {Imm: 16},
			{Dst: 9, Src: 10}, {Dst: 10, Src: 10, Off: 7}, {Dst: 3, Off: -7, Imm: 64}, {Op: 255, Dst: 255, Src: 255, Off: 255, Imm: 255},
		} {
			want, e := made(l, w, i)
			if j, f := insn.Make(w, i); j != want || f != e {
				t.Fatalf("Make(%+v, %+v): %+v, %d, not %+v, %d", w, i, j, f, want, e)
			}
		}
	})
}

func TestP2_3_Rows(t *testing.T) {
	for _, x := range []struct {
		b    []byte
		want api.Insn
	}{
		{[]byte{0x18, 0x21, 0xff, 0xff, 1, 0, 0, 0x80}, api.Insn{Op: 0x18, Dst: 1, Src: 2, Off: -1, Imm: -2147483647}},
		{make([]byte, 8), api.Insn{}},
		{bytes.Repeat([]byte{255}, 8), api.Insn{Op: 255, Dst: 15, Src: 15, Off: -1, Imm: -1}},
		{[]byte{1, 0xf0, 2, 3, 4, 5, 6, 7}, api.Insn{Op: 1, Src: 15, Off: 3*256 + 2, Imm: 0x07060504}},
		{[]byte{0, 0x0f, 0xff, 0x7f, 0xff, 0xff, 0xff, 0x7f}, api.Insn{Dst: 15, Off: math.MaxInt16, Imm: math.MaxInt32}},
		{[]byte{0, 0, 0, 0x80, 0, 0, 0, 0x80}, api.Insn{Off: math.MinInt16, Imm: math.MinInt32}},
		{[]byte{0, 0, 0x80, 0, 0x80, 0x80, 0x80, 0}, api.Insn{Off: 128, Imm: 0x808080}},
	} {
		if i, e := insn.Decode(x.b); i != x.want || e != api.OK {
			t.Errorf("Decode(% x): %+v, %d", x.b, i, e)
		}
	}
}

func TestP2_3_Lengths(t *testing.T) {
	if i, e := insn.Decode(nil); i != (api.Insn{}) || e != api.ErrShort {
		t.Error("of nil", i, e)
	}
	for n := range 70 {
		b := bytes.Repeat([]byte{7}, n)
		want := api.OK
		if n < 8 {
			want = api.ErrShort
		} else if n > 8 {
			want = api.ErrLong
		}
		// with room behind the end, too
		for _, l := range [][]byte{b, append(slices.Clone(b), 7, 7, 7, 7, 7, 7, 7, 7)[:n]} {
			if i, e := insn.Decode(l); e != want || e != api.OK && i != (api.Insn{}) {
				t.Error(n, i, e)
			}
		}
	}
}

// eachEight hands on eight bytes: each byte alone with all that it may be, and others, the same ones each time.
func eachEight(f func(b []byte)) {
	for k := range 8 {
		for n := range 256 {
			b := make([]byte, 8)
			b[k] = byte(n)
			f(b)
			for j := range b {
				b[j] = ^b[j]
			}
			f(b)
		}
	}
	chance := rand.New(rand.NewSource(2))
	for range 50000 {
		b := make([]byte, 8)
		chance.Read(b)
		f(b)
	}
}

func TestP2_3_FieldByField(t *testing.T) {
	eachEight(func(b []byte) {
		was := slices.Clone(b)
		want := api.Insn{Op: b[0], Dst: b[1] % 16, Src: b[1] / 16, Off: int16(binary.LittleEndian.Uint16(b[2:])), Imm: int32(binary.LittleEndian.Uint32(b[4:]))}
		if i, e := insn.Decode(b); i != want || e != api.OK {
			t.Fatalf("Decode(% x): %+v, %d", b, i, e)
		}
		if !bytes.Equal(b, was) {
			t.Fatal("what was handed in is changed")
		}
	})
}

func TestP2_4_Rows(t *testing.T) {
	for _, x := range []struct {
		i    api.Insn
		want []byte
	}{
		{api.Insn{Op: 0x18, Dst: 1, Src: 2, Off: -1, Imm: -2147483647}, []byte{0x18, 0x21, 0xff, 0xff, 1, 0, 0, 0x80}},
		{api.Insn{}, make([]byte, 8)},
		{api.Insn{Op: 255, Dst: 15, Off: math.MinInt16, Imm: 0x07060504}, []byte{255, 15, 0, 0x80, 4, 5, 6, 7}},
		{api.Insn{Op: 1, Src: 15, Off: 0x0302, Imm: -2}, []byte{1, 0xf0, 2, 3, 0xfe, 255, 255, 255}},
	} {
		if b, e := insn.Encode(x.i); !bytes.Equal(b, x.want) || e != api.OK {
			t.Errorf("Encode(%+v): % x, %d", x.i, b, e)
		}
	}
}

func TestP2_4_Registers(t *testing.T) {
	for dst := range 256 {
		for src := range 256 {
			i := api.Insn{Op: 0x0f, Dst: byte(dst), Src: byte(src), Off: 3, Imm: 4}
			b, e := insn.Encode(i)
			if dst > 15 || src > 15 {
				if len(b) != 0 || e != api.ErrReg {
					t.Fatal(dst, src, b, e)
				}
			} else if e != api.OK || len(b) != 8 || int(b[1]) != 16*src+dst {
				t.Fatal(dst, src, b, e)
			}
		}
	}
}

func TestP2_4_NewMemory(t *testing.T) {
	i := api.Insn{Op: 0xb7, Dst: 1, Imm: -5}
	b, _ := insn.Encode(i)
	want := slices.Clone(b)
	clear(b[:cap(b)])
	if b, e := insn.Encode(i); !bytes.Equal(b, want) || e != api.OK {
		t.Error(b, e)
	}
}

func TestP2_5_Rows(t *testing.T) {
	for _, x := range []struct {
		i              api.Insn
		reads          []int
		writes, places int
	}{
		{api.Insn{Op: 0xbf, Dst: 1, Src: 2}, []int{2}, 1, 1},
		{api.Insn{Op: 0xbc, Dst: 1, Src: 1}, []int{1}, 1, 1},
		{api.Insn{Op: 0xb7, Dst: 1, Imm: 5}, nil, 1, 1},
		{api.Insn{Op: 0xb4, Dst: 9, Imm: 5}, nil, 9, 1},
		{api.Insn{Op: 0x07, Dst: 9, Imm: 5}, []int{9}, 9, 1},
		{api.Insn{Op: 0x0f, Dst: 2, Src: 1}, []int{1, 2}, 2, 1},
		{api.Insn{Op: 0x0f, Dst: 1, Src: 2}, []int{1, 2}, 1, 1},
		{api.Insn{Op: 0x0c, Dst: 2, Src: 2}, []int{2}, 2, 1},
		{api.Insn{Op: 0xcf, Dst: 0, Src: 10}, []int{0, 10}, 0, 1},
		{api.Insn{Op: 0x84, Dst: 4}, []int{4}, 4, 1},
		{api.Insn{Op: 0xd7, Dst: 3, Imm: 16}, []int{3}, 3, 1},
		{api.Insn{Op: 0x79, Dst: 3, Src: 10, Off: -8}, []int{10}, 3, 1},
		{api.Insn{Op: 0x79, Dst: 3, Src: 3}, []int{3}, 3, 1},
		{api.Insn{Op: 0x7b, Dst: 10, Src: 0, Off: -8}, []int{0, 10}, -1, 1},
		{api.Insn{Op: 0x7b, Dst: 6, Src: 6}, []int{6}, -1, 1},
		{api.Insn{Op: 0x7a, Dst: 10, Imm: 3}, []int{10}, -1, 1},
		{api.Insn{Op: 0x15, Dst: 7, Imm: 3}, []int{7}, -1, 1},
		{api.Insn{Op: 0xbd, Dst: 7, Src: 3}, []int{3, 7}, -1, 1},
		{api.Insn{Op: 0xbe, Dst: 7, Src: 7}, []int{7}, -1, 1},
		{api.Insn{Op: 0xb5, Dst: 7, Imm: 7}, []int{7}, -1, 1},
		{api.Insn{Op: 0x05, Off: 1}, nil, -1, 1},
		{api.Insn{Op: 0x85, Imm: 4}, nil, 0, 1},
		{api.Insn{Op: 0x95}, []int{0}, -1, 1},
		{api.Insn{Op: 0x18, Dst: 5, Imm: 5}, nil, 5, 2},
		{api.Insn{Op: 0x18, Dst: 5, Src: 1}, nil, 5, 2},
		// none that Of takes
		{api.Insn{}, nil, -1, 0},
		{api.Insn{Op: 0x18, Dst: 5, Src: 2}, nil, -1, 0},
		{api.Insn{Op: 0x18, Dst: 10}, nil, -1, 0},
		{api.Insn{Op: 0x0f, Dst: 1, Src: 11}, nil, -1, 0},
		{api.Insn{Op: 0x95, Imm: 1}, nil, -1, 0},
		{api.Insn{Op: 0x85, Off: 1}, nil, -1, 0},
		{api.Insn{Op: 0xd7, Dst: 1, Imm: 8}, nil, -1, 0},
	} {
		if r, w, p := insn.Reads(x.i), insn.Writes(x.i), insn.Places(x.i); !slices.Equal(r, x.reads) || w != x.writes || p != x.places {
			t.Errorf("%+v: reads %v, writes %d, places %d", x.i, r, w, p)
		}
	}
}

// uses: what the chapter says that an instruction of a row reads and writes, and how many places it takes.
func uses(x one, i api.Insn) (reads []int, writes, places int) {
	from := [256]bool{}
	from[i.Src] = x.src == "r"
	from[i.Dst] = from[i.Dst] || x.dst == "r" || x.is.Class == insn.Alu && x.is.Op != 0xb || x.is.Class == insn.Swap
	from[0] = from[0] || x.is.Class == insn.Exit
	for n, is := range from {
		if is {
			reads = append(reads, n)
		}
	}
	writes, places = -1, 1
	if x.dst == "w" {
		writes = int(i.Dst)
	}
	if x.is.Class == insn.Call {
		writes = 0
	}
	if x.is.Class == insn.Const || x.is.Class == insn.Ref {
		places = 2
	}
	return
}

func TestP2_5_Table(t *testing.T) {
	eachTold(func(i api.Insn, x one, e api.Errno) {
		var reads []int
		writes, places := -1, 0
		if e == api.OK {
			reads, writes, places = uses(x, i)
		}
		if r, w, p := insn.Reads(i), insn.Writes(i), insn.Places(i); !slices.Equal(r, reads) || w != writes || p != places {
			t.Fatalf("%+v: reads %v, writes %d, places %d, not %v, %d, %d", i, r, w, p, reads, writes, places)
		}
	})
}

func TestP2_5_NewMemory(t *testing.T) {
	i := api.Insn{Op: 0x0f, Dst: 2, Src: 1}
	l := insn.Reads(i)
	clear(l[:cap(l)])
	if l := insn.Reads(i); !slices.Equal(l, []int{1, 2}) {
		t.Error(l)
	}
}
