// Package word is layer 1: see shared/doc/01-word.md.
package word

import "stockade/api"

// The operations.
const (
	Add = iota
	Sub
	Mul
	Div
	Or
	And
	Lsh
	Rsh
	Neg
	Mod
	Xor
	Mov
	Arsh
)

// The conditions.
const (
	Jeq  = 1
	Jgt  = 2
	Jge  = 3
	Jset = 4
	Jne  = 5
	Jsgt = 6
	Jsge = 7
	Jlt  = 10
	Jle  = 11
	Jslt = 12
	Jsle = 13
)

// Alu: P1.1.
func Alu(op int, wide bool, a, b uint64) (uint64, api.Errno) {
	size := sizeOf(wide)
	fit := fitter(size)
	n, e := answer(op, size, fit(a), fit(b))
	return fit(n), e
}

// Cond: P1.2.
func Cond(op int, wide bool, a, b uint64) (bool, api.Errno) {
	size := sizeOf(wide)
	fit := fitter(size)
	a, b = fit(a), fit(b)
	x, y := signed(size, a), signed(size, b)
	switch op {
	case Jeq:
		return a == b, api.OK
	case Jne:
		return a != b, api.OK
	case Jgt:
		return a > b, api.OK
	case Jge:
		return a >= b, api.OK
	case Jlt:
		return a < b, api.OK
	case Jle:
		return a <= b, api.OK
	case Jset:
		return a&b != 0, api.OK
	case Jsgt:
		return x > y, api.OK
	case Jsge:
		return x >= y, api.OK
	case Jslt:
		return x < y, api.OK
	case Jsle:
		return x <= y, api.OK
	}
	return false, api.ErrOp
}

// Swap: P1.3.
func Swap(bits int, a uint64) (uint64, api.Errno) {
	switch bits {
	case 16, 32, 64:
		n := uint64(0)
		for range bits / 8 {
			n = n<<8 | a&0xff
			a >>= 8
		}
		return n, api.OK
	}
	return 0, api.ErrArg
}

// Ext: P1.4.
func Ext(imm int32) uint64 { return uint64(int64(imm)) }

// sizeOf answers how many bits an instruction works on.
func sizeOf(wide bool) uint64 {
	if wide {
		return 64
	}
	return 32
}

// fitter hands out what makes of a number the one that an instruction of that size sees: itself, or its half.
func fitter(size uint64) func(uint64) uint64 {
	mask := ^uint64(0) >> (64 - size)
	return func(n uint64) uint64 { return n & mask }
}

// signed answers the signed value of n, whose highest bit is the one of the size.
func signed(size, n uint64) int64 {
	up := 64 - size
	return int64(n<<up) >> up
}

// answer works on a and b as they were fitted; what it answers may still have bits above the size.
func answer(op int, size, a, b uint64) (uint64, api.Errno) {
	switch op {
	case Add:
		return a + b, api.OK
	case Sub:
		return a - b, api.OK
	case Mul:
		return a * b, api.OK
	case Div:
		if b == 0 {
			return 0, api.OK
		}
		return a / b, api.OK
	case Or:
		return a | b, api.OK
	case And:
		return a & b, api.OK
	case Lsh:
		return a << (b % size), api.OK
	case Rsh:
		return a >> (b % size), api.OK
	case Neg:
		return -a, api.OK
	case Mod:
		if b == 0 {
			return a, api.OK
		}
		return a % b, api.OK
	case Xor:
		return a ^ b, api.OK
	case Mov:
		return b, api.OK
	case Arsh:
		return uint64(signed(size, a) >> (b % size)), api.OK
	}
	return 0, api.ErrOp
}
