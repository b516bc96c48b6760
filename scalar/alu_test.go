package scalar_test

import (
	"math/rand"
	"testing"

	"stockade/api"
	"stockade/scalar"
	"stockade/span"
	"stockade/word"
)

func TestP11_3_Rows(t *testing.T) {
	all, half, low3 := both(0, top, 0, top), both(0, low32, 0, low32), both(0, 7, 0, 7)
	of := func(n uint64) api.Scalar { return both(n, 0, n, n) }
	five := both(5, low32<<32, 5, low32<<32|5) // the lowest 32 bits are those of 5
	for k, x := range []struct {
		op         int
		wide       bool
		a, b, want api.Scalar
	}{
		{word.And, true, all, of(7), low3},
		{word.Add, true, low3, of(8), both(8, 7, 8, 15)},
		{word.Rsh, false, all, of(28), both(0, 15, 0, 15)},

		{word.Add, true, low3, low3, both(0, 15, 0, 14)},
		{word.Add, true, ends(1, 5), ends(10, 20), both(0, 31, 11, 25)},
		{word.Add, true, of(top), one, none},
		{word.Add, false, of(low32), one, none},
		{word.Add, true, of(low32), one, of(1 << 32)},
		{word.Add, false, of(1<<32 + 5), of(3<<40 + 3), of(8)},
		{word.Add, true, all, one, all},
		{word.Add, false, all, one, half},
		{word.Sub, true, of(3), of(5), of(top - 1)},
		{word.Sub, false, of(3), of(5), of(low32 - 1)},
		{word.Sub, true, low3, one, all},
		{word.Sub, false, low3, one, half},
		{word.Sub, true, both(8, 7, 8, 15), low3, both(0, 15, 1, 15)},
		{word.Mul, true, both(0, 2, 0, 2), of(3), both(0, 6, 0, 6)},
		{word.Mul, true, of(1 << 32), of(1 << 32), none}, // the span is All, the tnum tells
		{word.Mul, false, of(1 << 16), of(1 << 16), none},
		{word.Mul, true, of(1 << 16), of(1 << 16), of(1 << 32)},
		{word.Div, true, ends(10, 20), of(3), both(0, 7, 3, 6)},
		{word.Div, true, of(20), of(3), of(6)},
		{word.Div, true, ends(10, 20), none, none},
		{word.Div, false, of(1<<32 + 20), of(1<<32 + 3), of(6)},
		{word.Or, true, ends(8, 12), ends(3, 6), both(8, 7, 11, 15)},
		{word.Or, true, both(0, 5, 0, 5), both(0, 2, 0, 2), low3},
		{word.Or, false, of(5 << 32), one, one},
		{word.And, false, all, of(top), half},
		{word.And, true, both(1, 6, 1, 7), one, one}, // the span is 0 to 1
		{word.And, true, both(0, 5, 0, 5), both(0, 3, 0, 3), both(0, 1, 0, 1)},
		{word.Xor, true, ends(8, 12), of(8), both(0, 7, 0, 4)},
		{word.Xor, true, all, of(top), all},
		{word.Xor, false, one, of(top), of(low32 - 1)},

		{word.Lsh, true, ends(1, 3), of(4), both(0, 48, 16, 48)},
		{word.Lsh, true, ends(1, 3), of(68), both(0, 48, 16, 48)},
		{word.Lsh, true, ends(1, 3), of(36), both(0, 48<<32, 16<<32, 48<<32)},
		{word.Lsh, false, ends(1, 3), of(36), both(0, 48, 16, 48)},
		{word.Lsh, true, one, ends(1, 2), both(0, 7, 2, 4)},
		{word.Lsh, true, of(3), of(63), of(1 << 63)}, // the span is All
		{word.Lsh, false, of(3), of(31), of(1 << 31)},
		{word.Lsh, true, of(3), of(31), of(3 << 31)},
		{word.Lsh, true, both(4, 8, 4, 12), none, both(4, 8, 4, 12)},
		{word.Lsh, false, one, five, of(32)},
		{word.Lsh, true, one, five, both(0, top, 1, 1<<63)},
		{word.Rsh, true, of(1 << 32), of(32), one},
		{word.Rsh, false, of(1 << 32), of(32), none},
		{word.Rsh, false, of(8), of(33), of(4)},
		{word.Rsh, true, of(8), of(33), none},
		{word.Rsh, true, both(0, 24, 0, 24), of(3), both(0, 3, 0, 3)},
		{word.Rsh, true, both(0, 40, 0, 40), of(3), both(0, 5, 0, 5)}, // 0, 1, 4 or 5
		{word.Rsh, true, ends(8, 17), ends(1, 3), both(0, 15, 1, 8)},
		{word.Rsh, false, five, one, of(2)},
		{word.Arsh, true, of(1 << 63), of(63), of(top)},
		{word.Arsh, true, of(1 << 63), of(64), of(1 << 63)},
		{word.Arsh, false, of(1 << 31), of(4), of(1<<32 - 1<<27)},
		{word.Arsh, false, of(1 << 31), of(36), of(1<<32 - 1<<27)},
		{word.Arsh, true, of(1 << 31), of(4), of(1 << 27)},
		{word.Arsh, false, both(0, 1<<31, 0, 1<<31), of(4), both(0, 1<<32-1<<27, 0, 1<<32-1<<27)},
		{word.Arsh, true, of(16), ends(1, 2), both(0, 15, 4, 8)},

		{word.Neg, true, one, all, of(top)},
		{word.Neg, false, one, none, of(low32)},
		{word.Neg, true, none, one, none},
		{word.Neg, true, both(1, 2, 1, 3), hollow, both(top-2, 2, top-2, top)},
		{word.Neg, true, both(0, 1, 0, 1), one, all},
		{word.Neg, false, both(0, 1, 0, 1), one, half},
		{word.Mod, true, ends(10, 13), of(8), both(0, 7, 2, 5)},
		{word.Mod, true, ends(10, 17), of(8), low3},
		{word.Mod, true, both(0, 5, 0, 5), of(8), both(0, 7, 0, 5)}, // of the tnum nothing is told
		{word.Mod, true, all, none, all},
		{word.Mod, false, of(1<<32 + 7), none, of(7)},
		{word.Mov, true, of(9), both(0, 5, 2, 4), both(0, 5, 2, 4)},
		{word.Mov, false, of(9), both(0, 5, 2, 4), both(0, 5, 2, 4)},
		{word.Mov, true, hollow, of(1<<32 + 5), of(1<<32 + 5)},
		{word.Mov, false, hollow, of(1<<32 + 5), of(5)},
		{word.Mov, false, hollow, five, of(5)},
		{word.Mov, false, none, both(0, 1<<33-1, low32, 1<<32), half},
		{word.Mov, false, none, both(0, low32, 9, low32), both(0, low32, 9, low32)}, // all are below 2^32
		{word.Mov, false, none, both(0, 1<<33-1, 9, 1<<32), half},                   // one is not
		{word.Mov, false, none, hollowHigh, none},
	} {
		if s, e := scalar.Alu(x.op, x.wide, x.a, x.b); s != x.want || e != 0 {
			t.Errorf("row %d: Alu(%d, %v, %v, %v): %v, %d, not %v", k, x.op, x.wide, x.a, x.b, s, e, x.want)
		}
	}
}

// The tnum becomes 7 and what lies above, the span 3 to 4.
func TestP11_3_NothingLeft(t *testing.T) {
	all, half := both(0, top, 0, top), both(0, low32, 0, low32)
	for k, x := range []struct {
		op   int
		wide bool
		by   uint64
		want api.Scalar
	}{
		{word.Add, true, top - 3, all}, {word.Sub, true, 4, all},
		{word.Add, false, low32 - 3, half}, {word.Add, false, top - 3, half}, {word.Sub, false, 4, half}, {word.Sub, false, 1<<32 + 4, half},
	} {
		if s, e := scalar.Alu(x.op, x.wide, hollow7, scalar.Of(x.by)); s != x.want || e != 0 {
			t.Errorf("row %d: %v, %d, not %v", k, s, e, x.want)
		}
	}
}

func TestP11_3_Wrong(t *testing.T) {
	chance := rand.New(rand.NewSource(113))
	good := []api.Scalar{none, one, both(0, top, 0, top), hollow}
	for _, wide := range yesNo {
		for _, op := range noOps {
			for _, a := range good {
				s, e := scalar.Alu(op, wide, a, one)
				refuses(t, "no operation", s, e, errOp)
			}
		}
		for _, op := range append(noOps, ops...) {
			for _, a := range append(bads(), badScalar(chance)) {
				for _, b := range good {
					s, e := scalar.Alu(op, wide, a, b)
					refuses(t, "a", s, e, errArg)
					s, e = scalar.Alu(op, wide, b, a)
					refuses(t, "b", s, e, errArg)
				}
				s, e := scalar.Alu(op, wide, a, a)
				refuses(t, "both", s, e, errArg)
			}
		}
	}
	for op := -300; op < 300; op++ {
		if _, e := scalar.Alu(op, true, one, one); (e == errOp) != (op < 0 || op > 12) {
			t.Error(op, e)
		}
	}
}

func aluAsTold(t *testing.T, a, b api.Scalar) {
	t.Helper()
	for _, op := range ops {
		for _, wide := range yesNo {
			if s, e := scalar.Alu(op, wide, a, b); s != toldAlu(op, wide, a, b) || e != 0 {
				t.Fatalf("Alu(%d, %v, %v, %v): %v, %d, not %v", op, wide, a, b, s, e, toldAlu(op, wide, a, b))
			}
		}
	}
}

func TestP11_3_ByTheChapter(t *testing.T) {
	few := little(0, 2)
	for _, at := range bases {
		l := little(at, 3)
		for k, a := range l {
			aluAsTold(t, a, few[k%len(few)])
			aluAsTold(t, few[k%len(few)], a)
			aluAsTold(t, a, l[k*7%len(l)])
		}
	}
	chance := rand.New(rand.NewSource(213))
	for range 20000 {
		a, b := anyPair(chance)
		aluAsTold(t, a, b)
	}
}

func TestP11_4_Rows(t *testing.T) {
	all := both(0, top, 0, top)
	for k, x := range []struct {
		bits    int
		s, want api.Scalar
	}{
		{16, scalar.Below(8), both(0, 65280, 0, 65280)},
		{16, both(4660, 0, 4660, 4660), both(13330, 0, 13330, 13330)},
		{32, one, both(1<<24, 0, 1<<24, 1<<24)},
		{64, one, both(1<<56, 0, 1<<56, 1<<56)},
		{16, both(65536, 0, 65536, 65536), none},
		{16, ends(1, 2), both(0, 768, 0, 768)}, // the span tells nothing
		{32, ends(1, 2), both(0, 3<<24, 0, 3<<24)},
		{64, ends(1, 2), both(0, 3<<56, 0, 3<<56)},
		{16, all, both(0, 65535, 0, 65535)},
		{32, all, both(0, low32, 0, low32)},
		{64, all, all},
		{16, both(0x1200, 0xff, 0x1200, 0x12ff), both(0x12, 0xff00, 0x12, 0xff12)},
		{32, both(0x1200, 0xff, 0x1200, 0x12ff), both(0x120000, 0xff<<24, 0x120000, 0xff120000)},
		{16, hollow, both(0x300, 0x800, 0x300, 0xb00)},
		{16, both(1<<40, low32, 1<<40, 1<<40+low32), both(0, 65535, 0, 65535)},
		{64, both(0x8000000000000001, 6, 0x8000000000000001, 0x8000000000000007), both(1<<56+128, 6<<56, 1<<56+128, 7<<56+128)},
	} {
		if s, e := scalar.Swap(x.bits, x.s); s != x.want || e != 0 {
			t.Errorf("row %d: Swap(%d, %v): %v, %d, not %v", k, x.bits, x.s, s, e, x.want)
		}
	}
}

func TestP11_4_Wrong(t *testing.T) {
	chance := rand.New(rand.NewSource(114))
	for _, size := range append([]int{8}, noBits...) {
		if size == 16 || size == 32 || size == 64 {
			t.Fatal(size)
		}
		for range 20 {
			s, e := scalar.Swap(size, anyScalar(chance))
			refuses(t, "bits", s, e, errArg)
			s, e = scalar.Swap(size, badScalar(chance))
			refuses(t, "bits and scalar", s, e, errArg)
		}
	}
	for size := range 300 {
		if _, e := scalar.Swap(size, one); (e == errArg) != (size != 16 && size != 32 && size != 64) {
			t.Error(size, e)
		}
	}
	for _, size := range []int{16, 32, 64} {
		for _, bad := range append(bads(), badScalar(chance), badScalar(chance)) {
			s, e := scalar.Swap(size, bad)
			refuses(t, "scalar", s, e, errArg)
		}
	}
}

func TestP11_4_ByTheChapter(t *testing.T) {
	// byte by byte: the lowest one becomes the highest one
	turn := func(size int, n uint64) uint64 {
		out := uint64(0)
		for i := range size / 8 {
			out |= n >> (8 * i) & 255 << (size - 8 - 8*i)
		}
		return out
	}
	chance := rand.New(rand.NewSource(214))
	for range 20000 {
		a := anyScalar(chance)
		for _, size := range []int{16, 32, 64} {
			want, _ := toldSettle(api.Tnum{V: turn(size, a.T.V), M: turn(size, a.T.M)}, span.Cut(span.All(), size))
			if s, e := scalar.Swap(size, a); s != want || e != 0 {
				t.Fatalf("Swap(%d, %v): %v, %d, not %v", size, a, s, e, want)
			}
		}
	}
}
