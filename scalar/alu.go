package scalar

import (
	"stockade/api"
	"stockade/span"
	"stockade/tnum"
	"stockade/word"
)

// Alu: P11.3.
func Alu(op int, wide bool, a, b api.Scalar) (api.Scalar, api.Errno) {
	if !May(a) || !May(b) {
		return api.Scalar{}, api.ErrArg
	}
	if _, e := word.Alu(op, wide, 0, 0); e != api.OK {
		return api.Scalar{}, e
	}
	size := 64
	if !wide {
		size, a, b = 32, half(a), half(b)
	}
	bits, _ := bitsOf(op, size, a, b)
	bits, _ = tnum.Cut(bits, size)
	ends, _ := span.Alu(op, wide, a.S, b.S)
	if s, ok := Settle(bits, ends); ok {
		return s, api.OK
	}
	return Below(size), api.OK // a scalar that may be may hold no number, though neither its bits nor its ends tell
}

// Swap: P11.4.
func Swap(bits int, s api.Scalar) (api.Scalar, api.Errno) {
	v, e := word.Swap(bits, s.T.V)
	if e != api.OK || !May(s) {
		return api.Scalar{}, api.ErrArg
	}
	m, _ := word.Swap(bits, s.T.M)
	x, _ := Settle(api.Tnum{V: v, M: m}, Below(bits).S) // no bit of the tnum is above these: something is left
	return x, api.OK
}

// half answers the half of s.
func half(s api.Scalar) api.Scalar {
	all := Below(32)
	if s.S.Hi <= all.S.Hi {
		return s
	}
	t, _ := tnum.Cut(s.T, 32)
	h, _ := Settle(t, all.S) // no bit of the tnum is above these: something is left
	return h
}

// bitsOf answers the tnum of what op makes of a and b, which may have bits above the size.
func bitsOf(op, size int, a, b api.Scalar) (api.Tnum, api.Errno) {
	switch op {
	case word.Add:
		return tnum.Add(a.T, b.T)
	case word.Sub:
		return tnum.Sub(a.T, b.T)
	case word.Mul:
		return tnum.Mul(a.T, b.T)
	case word.Or:
		return tnum.Or(a.T, b.T)
	case word.And:
		return tnum.And(a.T, b.T)
	case word.Xor:
		return tnum.Xor(a.T, b.T)
	case word.Neg:
		return tnum.Sub(tnum.Of(0), a.T)
	case word.Mov:
		return b.T, api.OK
	}
	if n, is := single(b); is {
		return shifted(op, size, a.T, int(n%uint64(size)))
	}
	return tnum.All(), api.OK
}

// shifted answers all numbers where op is no shift.
func shifted(op, size int, t api.Tnum, by int) (api.Tnum, api.Errno) {
	switch op {
	case word.Lsh:
		return tnum.Lsh(t, by)
	case word.Rsh:
		return tnum.Rsh(t, by)
	case word.Arsh:
		return tnum.Arsh(t, by, size)
	}
	return tnum.All(), api.OK
}
