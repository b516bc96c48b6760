package span_test

import (
	"math/rand"
	"testing"

	"stockade/api"
	"stockade/span"
	"stockade/word"
)

type row struct {
	op   int
	wide bool
	a, b api.Span
	want api.Span
}

func check(t *testing.T, rows []row) {
	t.Helper()
	for k, x := range rows {
		if s, e := span.Alu(x.op, x.wide, x.a, x.b); s != x.want || e != 0 {
			t.Errorf("row %d: Alu(%d, %v, %v, %v): %v, %d, not %v", k, x.op, x.wide, x.a, x.b, s, e, x.want)
		}
	}
}

func TestP10_4_SumRows(t *testing.T) {
	check(t, []row{
		{add, true, of(1, 5), of(10, 20), of(11, 25)},
		{add, true, of(0, top), of(0, 0), of(0, top)},
		{add, true, of(0, top), of(0, top), of(0, top)},
		{add, true, of(top, top), of(1, 1), of(0, 0)},
		{add, true, of(top-1, top), of(0, 0), of(top-1, top)},
		{add, true, of(top-1, top), of(0, 1), of(0, top)},
		{add, true, of(top-1, top), of(1, 1), of(0, top)},
		{add, true, of(top-1, top), of(2, 3), of(0, 2)},
		{add, true, of(1, top), of(top, top), of(0, top-1)},
		{add, true, of(1, top), of(top-1, top), of(0, top)},
		{add, true, of(1<<63, 1<<63+1), of(1<<63, 1<<63+1), of(0, 2)},
		{add, true, of(0, 1<<63), of(0, 1<<63-1), of(0, top)},
		{add, true, of(0, 1<<63), of(1, 1<<63), of(0, top)},
		{add, false, of(low32, low32), of(1, 1), of(0, 0)},
		{add, false, of(low32-1, low32), of(1, 1), of(0, low32)},
		{add, false, of(low32-1, low32), of(2, 3), of(0, 2)},
		{add, false, of(1<<40+3, 1<<40+4), of(1<<41+1, 1<<41+1), of(4, 5)},
		{add, false, of(low32, low32+1), of(0, 0), of(0, low32)},
		{add, false, of(0, 1<<31), of(0, 1<<31-1), of(0, low32)},
		{add, false, of(1<<31, 1<<31+5), of(1<<31, 1<<31+5), of(0, 10)},
		{add, false, of(1, low32), of(0, 0), of(1, low32)},
		{sub, true, of(1, 5), of(2, 3), of(0, top)},
		{sub, true, of(3, 5), of(2, 3), of(0, 3)},
		{sub, true, of(1, 2), of(3, 5), of(top-3, top)},
		{sub, true, of(1, 2), of(2, 5), of(0, top)},
		{sub, true, of(0, top), of(0, 0), of(0, top)},
		{sub, true, of(0, 0), of(0, top), of(0, top)},
		{sub, true, of(0, 0), of(1, top), of(1, top)},
		{sub, true, of(top, top), of(0, top), of(0, top)},
		{sub, true, of(7, 9), of(0, 0), of(7, 9)},
		{sub, true, of(7, 9), of(0, 7), of(0, 9)},
		{sub, false, of(0, 0), of(1, 1), of(low32, low32)},
		{sub, false, of(1<<32+7, 1<<32+9), of(7, 7), of(0, 2)},
		{sub, false, of(0, 1), of(1, 1), of(0, low32)},
		{sub, false, of(1, 2), of(3, 5), of(low32-3, low32)},
		{neg, true, of(0, 0), of(9, 9), of(0, 0)},
		{neg, true, of(0, 1), of(9, 9), of(0, top)},
		{neg, true, of(1, 1), of(0, top), of(top, top)},
		{neg, true, of(1, 5), of(0, 0), of(top-4, top)},
		{neg, true, of(1, top), of(0, 0), of(1, top)},
		{neg, true, of(1<<63, 1<<63), of(0, 0), of(1<<63, 1<<63)},
		{neg, false, of(1, 2), of(9, 9), of(low32-1, low32)},
		{neg, false, of(1<<32, 1<<32), of(9, 9), of(0, 0)},
		{neg, false, of(1<<32, 1<<32+1), of(9, 9), of(0, low32)},
		{mov, true, of(3, 9), of(0, 2), of(0, 2)},
		{mov, true, of(3, 9), of(5, 1<<40), of(5, 1<<40)},
		{mov, false, of(3, 9), of(5, 1<<40), of(0, low32)},
		{mov, false, of(3, 9), of(1<<40+5, 1<<40+8), of(5, 8)},
	})
}

func TestP10_4_ProductRows(t *testing.T) {
	check(t, []row{
		{mul, true, of(3, 4), of(5, 6), of(15, 24)},
		{mul, true, of(0, 4), of(5, 6), of(0, 24)},
		{mul, true, of(1<<32, 1<<32), of(1<<32, 1<<32), of(0, top)},
		{mul, true, of(1<<32-1, 1<<32-1), of(1<<32+1, 1<<32+1), of(top, top)},
		{mul, true, of(2, 1<<32-1), of(3, 1<<32+1), of(6, top)},
		{mul, true, of(2, 1<<32), of(3, 1<<32), of(0, top)},
		{mul, true, of(0, top), of(1, 1), of(0, top)},
		{mul, true, of(5, top), of(1, 1), of(5, top)},
		{mul, true, of(5, top), of(0, 0), of(0, 0)},
		{mul, true, of(top, top), of(top, top), of(0, top)},
		{mul, true, of(1<<63, 1<<63), of(2, 2), of(0, top)},
		{mul, false, of(1<<16, 1<<16), of(1<<16, 1<<16), of(0, low32)},
		{mul, false, of(1<<16-1, 1<<16-1), of(1<<16+1, 1<<16+1), of(low32, low32)},
		{mul, false, of(low32, low32), of(low32, low32), of(0, low32)},
		{mul, false, of(1<<32+3, 1<<32+4), of(5, 6), of(15, 24)},
		{mul, false, of(7, low32), of(1, 1), of(7, low32)},
		{div, true, of(10, 20), of(0, 0), of(0, 0)},
		{div, true, of(10, 20), of(0, 1), of(0, 20)},
		{div, true, of(10, 20), of(0, 3), of(0, 20)},
		{div, true, of(10, 20), of(3, 4), of(2, 6)},
		{div, true, of(10, 20), of(1, 4), of(2, 20)},
		{div, true, of(10, 20), of(21, 30), of(0, 0)},
		{div, true, of(10, 20), of(20, 30), of(0, 1)},
		{div, true, of(0, top), of(2, 2), of(0, 1<<63-1)},
		{div, true, of(top, top), of(1, top), of(1, top)},
		{div, false, of(10, 20), of(1<<32, 1<<32), of(0, 0)},
		{div, false, of(10, 20), of(1<<32+3, 1<<32+4), of(2, 6)},
		{div, false, of(1<<32+10, 1<<32+20), of(3, 4), of(2, 6)},
		{div, false, of(10, 1<<40), of(2, 2), of(0, 1<<31-1)},
		{mod, true, of(10, 13), of(8, 8), of(2, 5)},
		{mod, true, of(10, 15), of(8, 8), of(2, 7)},
		{mod, true, of(10, 16), of(8, 8), of(0, 7)},
		{mod, true, of(8, 8), of(8, 8), of(0, 0)},
		{mod, true, of(3, 7), of(8, 8), of(3, 7)},
		{mod, true, of(3, 8), of(8, 8), of(0, 7)},
		{mod, true, of(3, 4), of(5, 9), of(3, 4)},
		{mod, true, of(3, 5), of(5, 9), of(0, 5)},
		{mod, true, of(3, 8), of(5, 9), of(0, 8)},
		{mod, true, of(3, 9), of(5, 9), of(0, 8)},
		{mod, true, of(3, 20), of(5, 9), of(0, 8)},
		{mod, true, of(13, 13), of(5, 6), of(0, 5)},
		{mod, true, of(3, 4), of(0, 0), of(3, 4)},
		{mod, true, of(0, top), of(0, 0), of(0, top)},
		{mod, true, of(3, 9), of(0, 2), of(0, 9)},
		{mod, true, of(3, 9), of(0, 1), of(0, 9)},
		{mod, true, of(9, 9), of(0, 2), of(0, 9)},
		{mod, true, of(3, 9), of(1, 1), of(0, 0)},
		{mod, true, of(5, 5), of(1, 1), of(0, 0)},
		{mod, true, of(3, 9), of(1, 2), of(0, 1)},
		{mod, true, of(0, 0), of(1, 1), of(0, 0)},
		{mod, true, of(0, 0), of(1, 5), of(0, 0)},
		{mod, false, of(10, 13), of(1<<32+8, 1<<32+8), of(2, 5)},
		{mod, false, of(1<<32+3, 1<<32+4), of(1<<33, 1<<33), of(3, 4)},
		{mod, false, of(3, 9), of(1<<32-1, 1<<32), of(0, 9)},
	})
}

func TestP10_4_ShiftRows(t *testing.T) {
	check(t, []row{
		{lsh, true, of(1, 3), of(2, 4), of(4, 48)},
		{lsh, true, of(1, 3), of(66, 68), of(4, 48)},
		{lsh, true, of(1, 3), of(63, 64), of(0, top)},
		{lsh, true, of(1, 3), of(62, 62), of(1<<62, 3<<62)},
		{lsh, true, of(1, 4), of(62, 62), of(0, top)},
		{lsh, true, of(1, 1), of(0, 63), of(1, 1<<63)},
		{lsh, true, of(1, 1), of(0, 64), of(1, 1<<63)},
		{lsh, true, of(1, 1), of(3, 70), of(1, 1<<63)},
		{lsh, true, of(1, 1), of(64, 64), of(1, 1)},
		{lsh, true, of(1, 1), of(64, 127), of(1, 1<<63)},
		{lsh, true, of(1, 1), of(1, 63), of(2, 1<<63)},
		{lsh, true, of(1, 1), of(0, 62), of(1, 1<<62)},
		{lsh, true, of(1, 2), of(0, 63), of(0, top)},
		{lsh, true, of(0, 0), of(0, top), of(0, 0)},
		{lsh, true, of(5, top), of(0, 0), of(5, top)},
		{lsh, true, of(5, top), of(0, 1), of(0, top)},
		{lsh, true, of(1<<32, 1<<32), of(31, 31), of(1<<63, 1<<63)},
		{lsh, true, of(1<<32, 1<<32), of(32, 32), of(0, top)},
		{lsh, true, of(1<<32, 1<<32), of(1<<32+1, 1<<32+1), of(1<<33, 1<<33)},
		{lsh, false, of(1, 1), of(31, 31), of(1<<31, 1<<31)},
		{lsh, false, of(1, 2), of(31, 31), of(0, low32)},
		{lsh, false, of(1, 1), of(32, 32), of(1, 1)},
		{lsh, false, of(1, 1), of(32, 34), of(1, 4)},
		{lsh, false, of(1, 1), of(31, 32), of(1, 1<<31)},
		{lsh, false, of(1, 1), of(0, 32), of(1, 1<<31)},
		{lsh, false, of(1, 1), of(3, 38), of(1, 1<<31)},
		{lsh, false, of(1, 1), of(1, 31), of(2, 1<<31)},
		{lsh, false, of(1<<33+1, 1<<33+1), of(1<<35+4, 1<<35+5), of(16, 32)},
		{lsh, false, of(1<<16, 1<<16), of(16, 16), of(0, low32)},
		{rsh, true, of(8, 17), of(1, 3), of(1, 8)},
		{rsh, true, of(8, 17), of(65, 67), of(1, 8)},
		{rsh, true, of(8, 17), of(0, 64), of(0, 17)},
		{rsh, true, of(8, 17), of(3, 70), of(0, 17)},
		{rsh, true, of(8, 17), of(63, 64), of(0, 17)},
		{rsh, true, of(0, top), of(63, 63), of(0, 1)},
		{rsh, true, of(top, top), of(1, 63), of(1, 1<<63-1)},
		{rsh, true, of(top, top), of(0, 63), of(1, top)},
		{rsh, false, of(8, 17), of(33, 35), of(1, 8)},
		{rsh, false, of(low32, low32), of(0, 32), of(1, low32)},
		{rsh, false, of(1<<33+8, 1<<33+17), of(1, 3), of(1, 8)},
		{rsh, false, of(0, top), of(28, 28), of(0, 15)},
		{rsh, false, of(1<<31, 1<<31), of(31, 32), of(1, 1<<31)},
		{arsh, true, of(top-7, top), of(1, 2), of(top-3, top)},
		{arsh, true, of(8, 17), of(1, 3), of(1, 8)},
		{arsh, true, of(1<<63, 1<<63), of(63, 63), of(top, top)},
		{arsh, true, of(1<<63, 1<<63), of(0, 63), of(1<<63, top)},
		{arsh, true, of(1<<63, 1<<63), of(1, 2), of(3<<62, 7<<61)},
		{arsh, true, of(1<<63-1, 1<<63), of(4, 4), of(1<<59-1, top-1<<59+1)},
		{arsh, true, of(1<<63-1, 1<<63), of(4, 8), of(1<<55-1, top-1<<55+1)},
		{arsh, true, of(16, top-15), of(1, 2), of(4, top-3)},
		{arsh, true, of(0, top), of(63, 63), of(0, top)},
		{arsh, true, of(1<<31, 1<<31), of(4, 4), of(1<<27, 1<<27)},
		{arsh, true, of(top-7, top-7), of(3, 70), of(top-7, top)},
		{arsh, true, of(8, 8), of(63, 64), of(0, 8)},
		{arsh, false, of(1<<31-1, 1<<31), of(4, 4), of(1<<27-1, 1<<32-1<<27)},
		{arsh, false, of(1<<31, 1<<31), of(31, 31), of(low32, low32)},
		{arsh, false, of(1<<31, 1<<31), of(31, 32), of(1<<31, low32)},
		{arsh, false, of(1<<63, 1<<63+8), of(3, 3), of(0, 1)},
		{arsh, false, of(1<<40+1<<31, 1<<40+1<<31), of(1, 1), of(3<<30, 3<<30)},
		{arsh, false, of(8, 17), of(33, 35), of(1, 8)},
		{arsh, false, of(1<<31-8, 1<<31-1), of(1, 3), of(1<<28-1, 1<<30-1)},
	})
}

func TestP10_4_BitRows(t *testing.T) {
	check(t, []row{
		{and, true, of(8, 12), of(3, 6), of(0, 4)},
		{or, true, of(8, 12), of(3, 6), of(11, 15)},
		{xor, true, of(8, 12), of(3, 6), of(8, 15)},
		{and, true, of(5, 7), of(5, 7), of(4, 7)},
		{or, true, of(5, 6), of(5, 6), of(5, 7)},
		{xor, true, of(5, 6), of(5, 6), of(0, 3)},
		{xor, true, of(4, 5), of(6, 7), of(2, 3)},
		{and, true, of(0, top), of(7, 7), of(0, 7)},
		{or, true, of(0, top), of(7, 7), of(7, top)},
		{xor, true, of(0, top), of(7, 7), of(0, top)},
		{and, true, of(1<<63, top), of(1<<63, top), of(1<<63, top)},
		{xor, true, of(1<<63, top), of(1<<63, top), of(0, 1<<63-1)},
		{xor, true, of(1<<63, top), of(0, 1<<63-1), of(1<<63, top)},
		{or, true, of(0, 1<<63), of(0, 1<<63), of(0, top)},
		{and, true, of(1<<63-1, 1<<63), of(1<<63-1, 1<<63), of(0, 1<<63)},
		{or, true, of(1<<63-1, 1<<63), of(1<<63-1, 1<<63), of(1<<63-1, top)},
		{xor, true, of(1<<63-1, 1<<63), of(1<<63-1, 1<<63), of(0, top)},
		{and, true, of(1<<32-1, 1<<32), of(1<<32, 1<<32), of(0, 1<<32)},
		{and, false, of(1<<40+8, 1<<40+12), of(1<<41+3, 1<<41+6), of(0, 4)},
		{or, false, of(1<<40+8, 1<<40+12), of(1<<41+3, 1<<41+6), of(11, 15)},
		{xor, false, of(1<<40+8, 1<<40+12), of(1<<41+3, 1<<41+6), of(8, 15)},
		{or, false, of(1<<32-1, 1<<32), of(8, 8), of(8, low32)},
		{and, false, of(0, top), of(top, top), of(0, low32)},
		{xor, false, of(0, 0), of(top, top), of(low32, low32)},
	})
}

// resultsOf: the span of all results of numbers that a and b hold, by layer 1.
func resultsOf(op int, wide bool, a, b api.Span) api.Span {
	size := sizeOf(wide)
	var l []uint64
	for _, x := range held(toldCut(a, size)) {
		for _, y := range held(toldCut(b, size)) {
			n, _ := word.Alu(op, wide, x, y)
			l = append(l, n)
		}
	}
	return ends(l)
}

// short: that s holds only so few numbers, cut to its size too, that they can be gone through.
func short(wide bool, s api.Span) bool {
	s = toldCut(s, sizeOf(wide))
	return s.Hi-s.Lo < 200
}

// byAllResults holds Alu against all results, but where the chapter says otherwise.
func byAllResults(t *testing.T, a, b api.Span) {
	t.Helper()
	for _, wide := range []bool{true, false} {
		if !short(wide, a) || !short(wide, b) {
			continue
		}
		for op := range opsEnd {
			want := resultsOf(op, wide, a, b)
			if op == mod || op == mul || op == lsh {
				told := toldAlu(op, wide, a, b)
				if op == mod || told == of(0, most(sizeOf(wide))) {
					want = told
				}
			}
			if s, e := span.Alu(op, wide, a, b); s != want || e != 0 {
				t.Fatalf("Alu(%d, %v, %v, %v): %v, %d, not %v", op, wide, a, b, s, e, want)
			}
		}
	}
}

func TestP10_4_AllResults(t *testing.T) {
	for _, a := range window(0, 12) {
		for _, b := range window(0, 12) {
			byAllResults(t, a, b)
		}
	}
	places := []uint64{0, 29, 61, 1<<31 - 3, 1<<32 - 3, 1<<63 - 3, top - 5}
	for _, m := range places {
		for _, n := range places {
			for _, a := range window(m, 6) {
				for _, b := range window(n, 6) {
					byAllResults(t, a, b)
				}
			}
		}
	}
}

func TestP10_4_AllShifts(t *testing.T) {
	for _, a := range []api.Span{of(0, 0), of(1, 1), of(1, 3), of(5, 9), of(1<<31-2, 1<<31+1), of(1<<31, 1<<31), of(1<<63-2, 1<<63+1), of(1<<63, 1<<63), of(top-8, top), of(low32-8, low32), of(3<<30, 3<<30), of(3<<62, 3<<62)} {
		for _, at := range []uint64{0, 1, 31, 32, 33, 62, 63, 64, 65, 96, 1<<32 - 1, 1 << 32, 1<<63 + 60, top - 110} {
			for count := range uint64(110) {
				b := of(at, at+count)
				for _, op := range []int{lsh, rsh, arsh} {
					for _, wide := range []bool{true, false} {
						s, e := span.Alu(op, wide, a, b)
						if want := toldAlu(op, wide, a, b); s != want || e != 0 {
							t.Fatalf("Alu(%d, %v, %v, %v): %v, %d, not %v", op, wide, a, b, s, e, want)
						}
					}
				}
			}
		}
	}
}

func TestP10_4_ByTheChapter(t *testing.T) {
	for op := range opsEnd {
		chance := rand.New(rand.NewSource(int64(1040 + op)))
		for range 4000 {
			a, b := anySpan(chance), anySpan(chance)
			for _, wide := range []bool{true, false} {
				s, e := span.Alu(op, wide, a, b)
				if want := toldAlu(op, wide, a, b); s != want || e != 0 {
					t.Fatalf("Alu(%d, %v, %v, %v): %v, %d, not %v", op, wide, a, b, s, e, want)
				}
			}
		}
	}
}

// Only a is asked by Neg, only b by Mov.
func TestP10_4_NegMov(t *testing.T) {
	chance := rand.New(rand.NewSource(1041))
	for range 3000 {
		a, b, c := anySpan(chance), anySpan(chance), anySpan(chance)
		for _, wide := range []bool{true, false} {
			x, _ := span.Alu(neg, wide, a, b)
			y, _ := span.Alu(neg, wide, a, c)
			v, _ := span.Alu(mov, wide, b, a)
			w, _ := span.Alu(mov, wide, c, a)
			if x != y || v != w || v != span.Cut(a, sizeOf(wide)) {
				t.Fatal(wide, a, b, c, x, y, v, w)
			}
		}
	}
}

func TestP10_4_Wrong(t *testing.T) {
	chance := rand.New(rand.NewSource(1042))
	for _, op := range noOps {
		for range 20 {
			refuses(t, op, anySpan(chance), anySpan(chance))
			refuses(t, op, badSpan(chance), anySpan(chance))
			refuses(t, op, of(0, 0), of(0, 0))
		}
	}
	for op := range opsEnd {
		for _, bad := range []api.Span{of(1, 0), of(4, 3), of(top, 0), of(top, top-1), of(1<<32, 5), of(1<<32, 1<<32-1), of(1<<63, 1<<63-1)} {
			refuses(t, op, bad, of(0, 1))
			refuses(t, op, of(0, 1), bad)
			refuses(t, op, bad, bad)
			refuses(t, op, bad, of(0, top))
			refuses(t, op, of(0, top), bad)
			refuses(t, op, bad, of(0, 0))
			refuses(t, op, of(0, 0), bad)
		}
		for range 500 {
			refuses(t, op, badSpan(chance), anySpan(chance))
			refuses(t, op, anySpan(chance), badSpan(chance))
			refuses(t, op, badSpan(chance), badSpan(chance))
		}
	}
}
