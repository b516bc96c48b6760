package word_test

import (
	"math"
	"math/big"
	"math/rand"
	"testing"

	"stockade/api"
	"stockade/word"
)

const top = math.MaxUint64

// numbers: those at which something turns, wide or not, and some others, the same ones each time.
func numbers() []uint64 {
	l := []uint64{0, 1, 2, 3, 6, 7, 9, 31, 32, 33, 63, 64, 65, 127, 128, 255, 256, 4660}
	for _, n := range []uint64{1 << 15, 1 << 16, 1 << 31, 1 << 32, 1 << 33, 1 << 47, 1 << 62, 1 << 63, top, top - 1<<31, top - 1<<32, 1<<63 + 1<<31, 1<<63 + 1<<32} {
		l = append(l, n-1, n, n+1)
	}
	chance := rand.New(rand.NewSource(1))
	for range 24 {
		n := chance.Uint64()
		l = append(l, n, n>>uint(chance.Intn(64)))
	}
	return l
}

func operations() []int {
	return []int{word.Add, word.Sub, word.Mul, word.Div, word.Or, word.And, word.Lsh, word.Rsh, word.Neg, word.Mod, word.Xor, word.Mov, word.Arsh}
}

func conditions() []int {
	return []int{word.Jeq, word.Jgt, word.Jge, word.Jset, word.Jne, word.Jsgt, word.Jsge, word.Jlt, word.Jle, word.Jslt, word.Jsle}
}

// alu: the answer, where there must be one.
func alu(t *testing.T, op int, wide bool, a, b uint64) uint64 {
	t.Helper()
	n, e := word.Alu(op, wide, a, b)
	if e != api.OK {
		t.Fatalf("Alu(%d, %v, %d, %d): %d", op, wide, a, b, e)
	}
	return n
}

// cond: whether it holds, where that must be said.
func cond(t *testing.T, op int, wide bool, a, b uint64) bool {
	t.Helper()
	is, e := word.Cond(op, wide, a, b)
	if e != api.OK {
		t.Fatalf("Cond(%d, %v, %d, %d): %d", op, wide, a, b, e)
	}
	return is
}

// each hands on all pairs of numbers, wide and not.
func each(f func(wide bool, a, b uint64)) {
	for _, wide := range []bool{true, false} {
		for _, a := range numbers() {
			for _, b := range numbers() {
				f(wide, a, b)
			}
		}
	}
}

func sizeOf(wide bool) int {
	if wide {
		return 64
	}
	return 32
}

// modulus: 2^size.
func modulus(wide bool) *big.Int {
	return new(big.Int).Lsh(big.NewInt(1), uint(sizeOf(wide)))
}

// plain: the number, or its half, told as a whole number.
func plain(wide bool, n uint64) *big.Int {
	return new(big.Int).Mod(new(big.Int).SetUint64(n), modulus(wide))
}

// signed: its signed value, or that of its half.
func signed(wide bool, n uint64) *big.Int {
	x, m := plain(wide, n), modulus(wide)
	if new(big.Int).Add(x, x).Cmp(m) >= 0 {
		x.Sub(x, m)
	}
	return x
}

// told: what the chapter's table says of an operation, by whole numbers without end.
func told(op int, wide bool, a, b uint64) uint64 {
	x, y, n := plain(wide, a), plain(wide, b), new(big.Int)
	shift := uint(y.Uint64() % uint64(sizeOf(wide)))
	switch op {
	case 0:
		n.Add(x, y)
	case 1:
		n.Sub(x, y)
	case 2:
		n.Mul(x, y)
	case 3:
		if y.Sign() != 0 {
			n.Div(x, y)
		}
	case 4:
		n.Or(x, y)
	case 5:
		n.And(x, y)
	case 6:
		n.Lsh(x, shift)
	case 7:
		n.Rsh(x, shift)
	case 8:
		n.Neg(x)
	case 9:
		n.Set(x)
		if y.Sign() != 0 {
			n.Mod(x, y)
		}
	case 10:
		n.Xor(x, y)
	case 11:
		n.Set(y)
	case 12:
		n.Rsh(signed(wide, a), shift)
	}
	return n.Mod(n, modulus(wide)).Uint64()
}

// holds: what the chapter's table says of a condition.
func holds(op int, wide bool, a, b uint64) bool {
	c := plain(wide, a).Cmp(plain(wide, b))
	s := signed(wide, a).Cmp(signed(wide, b))
	common := new(big.Int).And(plain(wide, a), plain(wide, b)).Sign() != 0
	return map[int]bool{1: c == 0, 5: c != 0, 2: c > 0, 3: c >= 0, 10: c < 0, 11: c <= 0, 4: common, 6: s > 0, 7: s >= 0, 12: s < 0, 13: s <= 0}[op]
}

func TestNamesAreTheChaptersNumbers(t *testing.T) {
	for i, op := range operations() {
		if op != i {
			t.Errorf("operation %d is named %d", i, op)
		}
	}
	want := []int{1, 2, 3, 4, 5, 6, 7, 10, 11, 12, 13}
	for i, op := range conditions() {
		if op != want[i] {
			t.Errorf("condition %d is named %d", want[i], op)
		}
	}
}

func TestP1_1_Rows(t *testing.T) {
	for _, x := range []struct {
		op         int
		wide       bool
		a, b, want uint64
	}{
		{word.Add, true, 2, 3, 5}, {word.Add, true, top, 2, 1}, {word.Add, false, 1<<32 - 1, 2, 1}, {word.Add, false, 7<<32 + 1, 9<<32 + 1, 2},
		{word.Sub, true, 3, 2, 1}, {word.Sub, true, 1, 2, top}, {word.Sub, false, 1, 2, 1<<32 - 1}, {word.Sub, false, 1 << 32, 1, 1<<32 - 1},
		{word.Mul, true, 3, 5, 15}, {word.Mul, true, 1 << 63, 2, 0}, {word.Mul, true, top, top, 1}, {word.Mul, false, 1 << 31, 2, 0}, {word.Mul, false, 1<<32 + 3, 1<<33 + 5, 15},
		{word.Div, true, 7, 2, 3}, {word.Div, true, 7, 0, 0}, {word.Div, true, top, 1, top}, {word.Div, true, 1 << 63, top, 0}, {word.Div, false, 1<<32 + 7, 2, 3}, {word.Div, false, 7, 1 << 32, 0}, {word.Div, false, 1 << 31, 1<<32 - 1, 0},
		{word.Mod, true, 7, 4, 3}, {word.Mod, true, top, 0, top}, {word.Mod, false, 1<<32 + 7, 0, 7}, {word.Mod, false, 1<<32 + 7, 1 << 32, 7}, {word.Mod, false, 1<<32 + 7, 4, 3}, {word.Mod, true, 1 << 63, top, 1 << 63},
		{word.Or, true, 6, 9, 15}, {word.Or, false, 1<<32 + 6, 1<<40 + 3, 7},
		{word.And, true, 6, 3, 2}, {word.And, true, 1 << 40, 3 << 40, 1 << 40}, {word.And, false, 1<<40 + 6, 1<<40 + 3, 2},
		{word.Xor, true, 6, 3, 5}, {word.Xor, false, 1<<40 + 6, 3, 5},
		{word.Lsh, true, 1, 63, 1 << 63}, {word.Lsh, true, 3, 63, 1 << 63}, {word.Lsh, true, 5, 64, 5}, {word.Lsh, true, 5, 65, 10}, {word.Lsh, true, 5, top, 1 << 63}, {word.Lsh, false, 1, 31, 1 << 31}, {word.Lsh, false, 3, 31, 1 << 31}, {word.Lsh, false, 5, 32, 5}, {word.Lsh, false, 1, 33, 2}, {word.Lsh, false, 1, 1<<40 + 1, 2},
		{word.Rsh, true, 8, 2, 2}, {word.Rsh, true, 1 << 63, 63, 1}, {word.Rsh, true, 1 << 63, 64, 1 << 63}, {word.Rsh, true, 8, 66, 2}, {word.Rsh, false, 1<<32 + 8, 2, 2}, {word.Rsh, false, 1 << 31, 31, 1}, {word.Rsh, false, 1 << 31, 32, 1 << 31}, {word.Rsh, false, 8, 34, 2},
		{word.Neg, true, 1, 9, top}, {word.Neg, true, 0, 9, 0}, {word.Neg, true, 1 << 63, 0, 1 << 63}, {word.Neg, false, 1, 9, 1<<32 - 1}, {word.Neg, false, 1 << 31, 0, 1 << 31}, {word.Neg, false, 1 << 32, 1, 0},
		{word.Mov, true, 1, top, top}, {word.Mov, false, 1, 1<<32 + 4, 4},
		{word.Arsh, true, 1 << 63, 63, top}, {word.Arsh, true, 1 << 63, 64, 1 << 63}, {word.Arsh, true, 1 << 63, 65, 3 << 62}, {word.Arsh, true, 1 << 62, 62, 1}, {word.Arsh, false, 1 << 31, 4, 4160749568}, {word.Arsh, false, 1 << 31, 31, 1<<32 - 1}, {word.Arsh, false, 1 << 31, 32, 1 << 31}, {word.Arsh, false, 1 << 30, 30, 1}, {word.Arsh, false, 1<<63 + 8, 2, 2},
	} {
		if n := alu(t, x.op, x.wide, x.a, x.b); n != x.want {
			t.Errorf("Alu(%d, %v, %d, %d): %d, not %d", x.op, x.wide, x.a, x.b, n, x.want)
		}
	}
}

func TestP1_1_Table(t *testing.T) {
	for _, op := range operations() {
		each(func(wide bool, a, b uint64) {
			n, want := alu(t, op, wide, a, b), told(op, wide, a, b)
			if n != want || !wide && n >= 1<<32 {
				t.Fatalf("Alu(%d, %v, %d, %d): %d, not %d", op, wide, a, b, n, want)
			}
		})
	}
}

func TestP1_1_NoOperation(t *testing.T) {
	for _, op := range []int{13, 14, 15, 16, 32, 64, 256, 1 << 32, math.MaxInt, -1, -2, -13, math.MinInt} {
		for _, wide := range []bool{true, false} {
			if n, e := word.Alu(op, wide, 6, 3); n != 0 || e != api.ErrOp {
				t.Errorf("Alu(%d, %v): %d, %d", op, wide, n, e)
			}
		}
	}
}

func TestP1_2_Rows(t *testing.T) {
	for _, x := range []struct {
		op         int
		wide, want bool
		a, b       uint64
	}{
		{word.Jeq, true, true, 5, 5}, {word.Jeq, true, false, 1 << 32, 0}, {word.Jeq, false, true, 1 << 32, 0},
		{word.Jne, true, true, 1 << 32, 0}, {word.Jne, false, false, 1 << 32, 0}, {word.Jne, true, false, 5, 5},
		{word.Jgt, true, false, 1, top}, {word.Jgt, true, true, top, 1}, {word.Jgt, true, false, 5, 5}, {word.Jgt, false, false, 1 << 32, 1},
		{word.Jge, true, true, 5, 5}, {word.Jge, true, false, 4, 5}, {word.Jge, false, false, 1 << 32, 1},
		{word.Jlt, true, true, 4, 5}, {word.Jlt, true, false, 5, 5}, {word.Jlt, false, true, 1 << 32, 1},
		{word.Jle, true, true, 5, 5}, {word.Jle, true, false, 6, 5}, {word.Jle, false, true, 1 << 32, 1},
		{word.Jset, true, false, 6, 9}, {word.Jset, true, true, 6, 2}, {word.Jset, true, true, 1 << 40, 1 << 40}, {word.Jset, false, false, 1 << 40, 1 << 40}, {word.Jset, true, false, 0, 0},
		{word.Jsgt, true, true, 1, top}, {word.Jsgt, true, false, 5, 5}, {word.Jsgt, true, false, 1 << 63, 0}, {word.Jsgt, true, true, 1 << 31, 0}, {word.Jsgt, false, false, 1 << 31, 0},
		{word.Jsge, true, true, 5, 5}, {word.Jsge, true, false, 1 << 63, 1<<63 - 1}, {word.Jsge, false, true, 1<<31 - 1, 1 << 31},
		{word.Jslt, true, true, 1 << 63, 1<<63 - 1}, {word.Jslt, true, false, 5, 5}, {word.Jslt, false, true, 1 << 31, 1<<31 - 1}, {word.Jslt, false, false, 1 << 63, 0},
		{word.Jsle, true, true, 5, 5}, {word.Jsle, true, false, 0, top}, {word.Jsle, false, true, 1 << 31, 0}, {word.Jsle, false, true, 1 << 63, 0},
	} {
		if is := cond(t, x.op, x.wide, x.a, x.b); is != x.want {
			t.Errorf("Cond(%d, %v, %d, %d): %v", x.op, x.wide, x.a, x.b, is)
		}
	}
}

func TestP1_2_Table(t *testing.T) {
	for _, op := range conditions() {
		each(func(wide bool, a, b uint64) {
			if is := cond(t, op, wide, a, b); is != holds(op, wide, a, b) {
				t.Fatalf("Cond(%d, %v, %d, %d): %v", op, wide, a, b, is)
			}
		})
	}
}

func TestP1_2_NoCondition(t *testing.T) {
	for _, op := range []int{0, 8, 9, 14, 15, 16, 17, 26, 257, 1<<32 + 1, math.MaxInt, -1, -8, math.MinInt} {
		for _, wide := range []bool{true, false} {
			if is, e := word.Cond(op, wide, 1, 1); is || e != api.ErrOp {
				t.Errorf("Cond(%d, %v): %v, %d", op, wide, is, e)
			}
		}
	}
}

func TestP1_3_Rows(t *testing.T) {
	for _, x := range []struct {
		bits    int
		a, want uint64
	}{
		{16, 4660, 13330}, {16, 65536, 0}, {16, 0xfedcba9876543210, 0x1032}, {16, 1, 256},
		{32, 1, 16777216}, {32, 1 << 32, 0}, {32, 0xfedcba9876543210, 0x10325476},
		{64, 1, 1 << 56}, {64, 0xfedcba9876543210, 0x1032547698badcfe}, {64, top, top},
	} {
		if n, e := word.Swap(x.bits, x.a); e != api.OK || n != x.want {
			t.Errorf("Swap(%d, %d): %d, %d", x.bits, x.a, n, e)
		}
	}
}

func TestP1_3_ByteByByte(t *testing.T) {
	for _, size := range []int{16, 32, 64} {
		for _, a := range numbers() {
			n, e := word.Swap(size, a)
			if e != api.OK || size < 64 && n>>size != 0 {
				t.Fatalf("Swap(%d, %d): %d, %d", size, a, n, e)
			}
			for k := 0; k < size; k += 8 {
				if byte(a>>k) != byte(n>>(size-8-k)) {
					t.Fatalf("Swap(%d, %d): %d", size, a, n)
				}
			}
		}
	}
}

func TestP1_3_WrongSizes(t *testing.T) {
	wrong := []int{128, 1 << 16, 1<<32 + 16, math.MaxInt, math.MinInt}
	for size := -70; size <= 130; size++ {
		if size != 16 && size != 32 && size != 64 {
			wrong = append(wrong, size)
		}
	}
	for _, size := range wrong {
		if n, e := word.Swap(size, 4660); n != 0 || e != api.ErrArg {
			t.Errorf("Swap(%d): %d, %d", size, n, e)
		}
	}
}

func TestP1_4(t *testing.T) {
	for _, x := range []struct {
		imm  int32
		want uint64
	}{{0, 0}, {1, 1}, {-1, top}, {math.MaxInt32, 1<<31 - 1}, {math.MinInt32, top - (1<<31 - 1)}, {-2, top - 1}, {4660, 4660}} {
		if n := word.Ext(x.imm); n != x.want {
			t.Errorf("Ext(%d): %d", x.imm, n)
		}
	}
	for _, a := range numbers() {
		imm := int32(uint32(a))
		if s := signed(true, word.Ext(imm)); s.Cmp(big.NewInt(int64(imm))) != 0 {
			t.Errorf("Ext(%d): the signed value is %v", imm, s)
		}
	}
}
