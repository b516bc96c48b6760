package scalar

import (
	"stockade/api"
	"stockade/word"
)

// Refine: P11.5.
func Refine(op int, wide bool, a, b api.Scalar, holds bool) (api.Scalar, api.Scalar, bool) {
	if _, e := word.Cond(op, wide, 0, 0); e != api.OK || !May(a) || !May(b) {
		return api.Scalar{}, api.Scalar{}, false
	}
	if max(a.S.Hi, b.S.Hi) > most(op, wide) {
		return a, b, true
	}
	x, y, ok := told(op, a, b, holds)
	if !ok {
		return api.Scalar{}, api.Scalar{}, false
	}
	return x, y, true
}

// most answers up to which number the condition is the wide one without signs: above it a narrow one asks the halves, a signed one numbers below 0.
func most(op int, wide bool) uint64 {
	size := 64
	if !wide {
		size = 32
	}
	n := Below(size).S.Hi
	if unsigned(op) != op {
		return n / 2
	}
	return n
}

// unsigned answers the condition without signs that a signed one is where no number is below 0.
func unsigned(op int) int {
	switch op {
	case word.Jsgt:
		return word.Jgt
	case word.Jsge:
		return word.Jge
	case word.Jslt:
		return word.Jlt
	case word.Jsle:
		return word.Jle
	}
	return op
}

// opposite answers the condition that holds just where op, which is not signed and not Jset, does not.
func opposite(op int) int {
	switch op {
	case word.Jeq:
		return word.Jne
	case word.Jne:
		return word.Jeq
	case word.Jgt:
		return word.Jle
	case word.Jge:
		return word.Jlt
	case word.Jlt:
		return word.Jge
	}
	return word.Jgt
}

// told answers what is known of a and b, which are not above most.
func told(op int, a, b api.Scalar, holds bool) (api.Scalar, api.Scalar, bool) {
	op = unsigned(op)
	if op == word.Jset {
		return common(a, b, holds)
	}
	if !holds {
		op = opposite(op)
	}
	switch op {
	case word.Jeq:
		m, ok := Meet(a, b)
		return m, m, ok
	case word.Jne:
		x, okX := without(a, b)
		y, okY := without(b, a)
		return x, y, okX && okY
	case word.Jgt:
		return above(a, b, 1)
	case word.Jge:
		return above(a, b, 0)
	case word.Jlt:
		y, x, ok := above(b, a, 1)
		return x, y, ok
	}
	y, x, ok := above(b, a, 0)
	return x, y, ok
}

// above answers what is known of a and b, if a is greater than b by so much at least.
func above(a, b api.Scalar, by uint64) (api.Scalar, api.Scalar, bool) {
	if b.S.Lo > All().S.Hi-by || a.S.Hi < by {
		return api.Scalar{}, api.Scalar{}, false
	}
	x, okX := Settle(a.T, api.Span{Lo: max(a.S.Lo, b.S.Lo+by), Hi: a.S.Hi})
	y, okY := Settle(b.T, api.Span{Lo: b.S.Lo, Hi: min(b.S.Hi, a.S.Hi-by)})
	return x, y, okX && okY
}

// without answers what is known of a, if it is not b: where b is a single number at an end of a, this end moves on.
func without(a, b api.Scalar) (api.Scalar, bool) {
	n, is := single(b)
	switch {
	case a == b && is:
		return api.Scalar{}, false
	case is && a.S.Lo == n:
		return Settle(a.T, api.Span{Lo: n + 1, Hi: a.S.Hi})
	case is && a.S.Hi == n:
		return Settle(a.T, api.Span{Lo: a.S.Lo, Hi: n - 1})
	}
	return a, true
}

// common answers what is known of a and b, if they have a bit in common, or if they have none.
func common(a, b api.Scalar, holds bool) (api.Scalar, api.Scalar, bool) {
	if holds {
		return a, b, (a.T.V|a.T.M)&(b.T.V|b.T.M) != 0
	}
	if a.T.V&b.T.V != 0 {
		return api.Scalar{}, api.Scalar{}, false
	}
	n, is := single(b)
	if !is {
		return a, b, true
	}
	x, ok := Settle(api.Tnum{V: a.T.V, M: a.T.M &^ n}, a.S)
	return x, b, ok
}
