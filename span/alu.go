package span

import (
	"math/bits"

	"stockade/api"
)

// The operations, by layer 1's numbers.
const (
	opAdd = iota
	opSub
	opMul
	opDiv
	opOr
	opAnd
	opLsh
	opRsh
	opNeg
	opMod
	opXor
	opMov
	opArsh
)

// Alu: P10.4.
func Alu(op int, wide bool, a, b api.Span) (api.Span, api.Errno) {
	if op < opAdd || op > opArsh || !May(a) || !May(b) {
		return api.Span{}, api.ErrArg
	}
	size := 64
	if !wide {
		size = 32
	}
	return results(op, size, Cut(a, size), Cut(b, size)), api.OK
}

// results answers the span of what op makes of a and b, which are of size bits.
func results(op, size int, a, b api.Span) api.Span {
	switch op {
	case opNeg:
		a, b = Of(0), a
		fallthrough
	case opSub:
		b = api.Span{Lo: -b.Hi, Hi: -b.Lo}
		fallthrough
	case opAdd:
		return sum(size, a, b)
	case opLsh:
		b = powers(counts(size, b))
		fallthrough
	case opMul:
		return product(size, a, b)
	case opRsh:
		b = powers(counts(size, b))
		fallthrough
	case opDiv:
		return quotient(a, b)
	case opArsh:
		return signed(size, a, counts(size, b))
	case opMod:
		return rest(a, b)
	case opMov:
		return b
	}
	return bitwise(op, a, b)
}

// sum takes b's ends modulo 2^64: Lo may be above Hi where 0 lies between them.
func sum(size int, a, b api.Span) api.Span {
	most := low(size)
	first := (a.Lo + b.Lo) & most
	more, carry := bits.Add64(a.Hi-a.Lo, b.Hi-b.Lo, 0)
	if carry != 0 || more > most-first {
		return api.Span{Hi: most}
	}
	return api.Span{Lo: first, Hi: first + more}
}

func product(size int, a, b api.Span) api.Span {
	over, last := bits.Mul64(a.Hi, b.Hi)
	if over != 0 || last > low(size) {
		return api.Span{Hi: low(size)}
	}
	return api.Span{Lo: a.Lo * b.Lo, Hi: last}
}

func quotient(a, b api.Span) api.Span {
	if b.Hi == 0 {
		return Of(0)
	}
	if b.Lo == 0 { // what is divided by 0 is 0, by 1 is itself
		return api.Span{Hi: a.Hi}
	}
	return api.Span{Lo: a.Lo / b.Hi, Hi: a.Hi / b.Lo}
}

func rest(a, b api.Span) api.Span {
	n := b.Hi
	switch {
	case n == 0 || b.Lo > a.Hi:
		return a
	case b.Lo == n && a.Lo/n == a.Hi/n:
		return api.Span{Lo: a.Lo % n, Hi: a.Hi % n}
	case b.Lo == 0:
		return api.Span{Hi: a.Hi}
	}
	return api.Span{Hi: min(a.Hi, n-1)}
}

// counts answers by how many bits is shifted.
func counts(size int, b api.Span) api.Span {
	round := uint64(size)
	s := api.Span{Lo: b.Lo % round, Hi: b.Hi % round}
	if b.Hi-b.Lo >= round-1 || !May(s) {
		return api.Span{Hi: round - 1}
	}
	return s
}

// powers answers by what is multiplied or divided where by so many bits is shifted.
func powers(by api.Span) api.Span { return api.Span{Lo: 1 << by.Lo, Hi: 1 << by.Hi} }

// signed answers the shifts with the sign: the further, the less comes of what is not below 0, and the more of what is.
func signed(size int, a, by api.Span) api.Span {
	up := 64 - size
	shift := func(n uint64, below, above uint64) uint64 {
		if x := int64(n<<up) >> up; x < 0 {
			return uint64(x>>above) & low(size)
		}
		return n >> below
	}
	return api.Span{Lo: shift(a.Lo, by.Hi, by.Lo), Hi: shift(a.Hi, by.Lo, by.Hi)}
}
