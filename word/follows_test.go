package word_test

import (
	"testing"

	"stockade/word"
)

// half: the number itself if wide, else its half.
func half(wide bool, n uint64) uint64 {
	if wide {
		return n
	}
	return n % (1 << 32)
}

func TestP1_5_Ring(t *testing.T) {
	third := []uint64{0, 1, 7, 1 << 31, 1<<32 + 5, 1 << 63, top}
	each(func(wide bool, a, b uint64) {
		do := func(op int, x, y uint64) uint64 { return alu(t, op, wide, x, y) }
		if do(word.Add, a, b) != do(word.Add, b, a) || do(word.Mul, a, b) != do(word.Mul, b, a) {
			t.Fatal("changed about", wide, a, b)
		}
		if do(word.Sub, do(word.Add, a, b), b) != half(wide, a) {
			t.Fatal("Sub does not undo Add", wide, a, b)
		}
		if do(word.Xor, do(word.Xor, a, b), b) != half(wide, a) {
			t.Fatal("Xor does not undo itself", wide, a, b)
		}
		if do(word.Add, do(word.Or, a, b), do(word.And, a, b)) != do(word.Add, a, b) {
			t.Fatal("Or and And do not add up", wide, a, b)
		}
		for _, c := range third {
			if do(word.Mul, c, do(word.Add, a, b)) != do(word.Add, do(word.Mul, c, a), do(word.Mul, c, b)) {
				t.Fatal("Mul does not go over Add", wide, a, b, c)
			}
		}
	})
}

func TestP1_6_Rests(t *testing.T) {
	each(func(wide bool, a, b uint64) {
		if half(wide, b) == 0 {
			return
		}
		whole, rest := alu(t, word.Div, wide, a, b), alu(t, word.Mod, wide, a, b)
		if alu(t, word.Add, wide, alu(t, word.Mul, wide, whole, b), rest) != half(wide, a) || rest >= half(wide, b) {
			t.Fatal(wide, a, b, whole, rest)
		}
	})
}

func TestP1_7_Shifts(t *testing.T) {
	for _, wide := range []bool{true, false} {
		size := sizeOf(wide)
		for _, a := range numbers() {
			for n := range size {
				by, power := uint64(n), uint64(1)<<n
				if alu(t, word.Lsh, wide, a, by) != alu(t, word.Mul, wide, a, power) {
					t.Fatal("Lsh is not Mul", wide, a, n)
				}
				if alu(t, word.Rsh, wide, a, by) != alu(t, word.Div, wide, a, power) {
					t.Fatal("Rsh is not Div", wide, a, n)
				}
				want := alu(t, word.Rsh, wide, a, by)
				if half(wide, a)>>(size-1) == 1 {
					want = half(wide, ^alu(t, word.Rsh, wide, ^a, by))
				}
				if alu(t, word.Arsh, wide, a, by) != want {
					t.Fatal("Arsh does not keep the sign", wide, a, n)
				}
			}
		}
	}
}

// Shifts by the size and more go by the rest, at all multiples of the size.
func TestP1_7_ShiftsBeyondTheSize(t *testing.T) {
	for _, op := range []int{word.Lsh, word.Rsh, word.Arsh} {
		each(func(wide bool, a, b uint64) {
			if alu(t, op, wide, a, b) != alu(t, op, wide, a, b%uint64(sizeOf(wide))) {
				t.Fatal(op, wide, a, b)
			}
		})
	}
}

func TestP1_8_Halves(t *testing.T) {
	above := []uint64{0, 1 << 32, 1 << 63, top - (1<<32 - 1), 0x1234567 << 36}
	for _, op := range operations() {
		each(func(_ bool, a, b uint64) {
			n := alu(t, op, false, a, b)
			for _, x := range above {
				for _, y := range above {
					if alu(t, op, false, half(false, a)+x, half(false, b)+y) != n {
						t.Fatal("bits above the half are seen", op, a, b, x, y)
					}
				}
			}
		})
	}
	for _, op := range []int{word.Add, word.Sub, word.Mul, word.Or, word.And, word.Xor, word.Neg, word.Mov} {
		each(func(_ bool, a, b uint64) {
			if alu(t, op, false, a, b) != half(false, alu(t, op, true, a, b)) {
				t.Fatal("no half of the wide one", op, a, b)
			}
		})
	}
}

func TestP1_8_ConditionsHangOnHalves(t *testing.T) {
	for _, op := range conditions() {
		each(func(_ bool, a, b uint64) {
			if cond(t, op, false, a, b) != cond(t, op, false, half(false, a), half(false, b)) {
				t.Fatal(op, a, b)
			}
		})
	}
}

func TestP1_9_Orders(t *testing.T) {
	each(func(wide bool, a, b uint64) {
		is := func(op int) bool { return cond(t, op, wide, a, b) }
		just := func(l ...int) bool {
			n := 0
			for _, op := range l {
				if is(op) {
					n++
				}
			}
			return n == 1
		}
		if !just(word.Jlt, word.Jeq, word.Jgt) || !just(word.Jslt, word.Jeq, word.Jsgt) {
			t.Fatal("not just one holds", wide, a, b)
		}
		if !just(word.Jle, word.Jgt) || !just(word.Jge, word.Jlt) || !just(word.Jne, word.Jeq) || !just(word.Jsle, word.Jsgt) || !just(word.Jsge, word.Jslt) {
			t.Fatal("one is not the other's opposite", wide, a, b)
		}
		turn := uint64(1) << (sizeOf(wide) - 1)
		for _, l := range [][2]int{{word.Jsgt, word.Jgt}, {word.Jsge, word.Jge}, {word.Jslt, word.Jlt}, {word.Jsle, word.Jle}} {
			if is(l[0]) != cond(t, l[1], wide, a^turn, b^turn) {
				t.Fatal("the signed order is not the turned one", wide, a, b, l)
			}
		}
	})
}
