package scalar_test

import (
	"math/bits"
	"math/rand"
	"testing"

	"stockade/api"
	"stockade/scalar"
	"stockade/span"
	"stockade/tnum"
	"stockade/word"
)

const (
	errArg = 1
	errOp  = 20
	top    = 1<<64 - 1
	low32  = 1<<32 - 1
)

var (
	edges   = []uint64{0, 1, 2, 3, 7, 8, 31, 32, 33, 63, 64, 0x7f, 0x80, 0xff, 0x100, 0xffff, 0x10000, 1<<31 - 1, 1 << 31, 1<<31 + 1, 1<<32 - 2, 1<<32 - 1, 1 << 32, 1<<32 + 1, 1<<63 - 1, 1 << 63, 1<<63 + 1, top - 1, top, 0x5555555555555555, 0xaaaaaaaaaaaaaaaa}
	ops     = []int{word.Add, word.Sub, word.Mul, word.Div, word.Or, word.And, word.Lsh, word.Rsh, word.Neg, word.Mod, word.Xor, word.Mov, word.Arsh}
	noOps   = []int{-1, 13, 14, 15, 64, 256, 1 << 32, -13, -1 << 31, -1 << 63, 1<<63 - 1, 1<<32 + 1}
	conds   = []int{word.Jeq, word.Jgt, word.Jge, word.Jset, word.Jne, word.Jsgt, word.Jsge, word.Jlt, word.Jle, word.Jslt, word.Jsle}
	noConds = []int{-1, 0, 8, 9, 14, 15, 64, 256 + 1, 1 << 32, 1<<32 + 1, -3, -1 << 63, 1<<63 - 1}
	noBits  = []int{0, 1, -1, 7, 9, 15, 17, 24, 31, 33, 48, 63, 65, 96, 128, 256, -8, -32, -64, 1<<32 + 32, 1<<63 - 1, -1 << 63}
	yesNo   = []bool{true, false}
)

var (
	none = api.Scalar{}
	one  = both(1, 0, 1, 1)
)

// Scalars that hold no number, though they may be: what the tnum holds lies on both sides of the span.
var (
	hollow     = both(3, 8, 4, 10)                // 3 and 11; 4 to 10
	hollow7    = both(3, 8, 7, 8)                 // 3 and 11; 7 and 8
	hollowHigh = both(1<<40, 8<<40, 2<<40, 8<<40) // 1 and 9 times 2^40; 2 to 8 times
)

// both: the scalar of a tnum's V and M and a span's ends, settled or not.
func both(v, m, lo, hi uint64) api.Scalar {
	return api.Scalar{T: api.Tnum{V: v, M: m}, S: api.Span{Lo: lo, Hi: hi}}
}

// ends: the settled scalar of all numbers from lo to hi.
func ends(lo, hi uint64) api.Scalar {
	free := uint64(1)<<bits.Len64(lo^hi) - 1
	return both(lo&^free, free, lo, hi)
}

// bads: scalars that may not be: for their tnum, their span, and because settling changes them or leaves nothing.
func bads() []api.Scalar {
	return []api.Scalar{
		both(1, 1, 0, 1), both(3, 1, 2, 3), both(1<<63, 1<<63, 0, top), both(top, top, 0, top), both(5, 4, 5, 5),
		both(0, 7, 5, 4), both(0, top, top, 0), both(0, 0, 1, 0),
		both(4, 3, 0, 5), both(4, 3, 4, 5), both(4, 1, 0, 5), both(0, 3, 0, 7), both(0, 7, 0, 3), both(0, top, 1<<63, top), both(0, top-1, 0, top), both(0, top, 5, 5), both(5, 0, 0, top), both(0, 0, 0, 1),
		both(1, 0, 2, 3), both(0, 5, 2, 3), both(5, 0, 6, 6), both(0, 7, 8, 9), both(0, low32, 0, 1<<32), both(0, 1<<33-1, 0, low32),
	}
}

// toldTurn: one turn of settling: the span ends where the tnum's least and greatest number do, the tnum has the bits that begin both ends alike.
func toldTurn(s api.Scalar) (api.Scalar, bool) {
	if greatest := s.T.V + s.T.M; s.S.Hi > greatest {
		s.S.Hi = greatest
	}
	if s.S.Lo < s.T.V {
		s.S.Lo = s.T.V
	}
	if s.S.Lo > s.S.Hi {
		return none, false
	}
	for i := 63; i >= 0; i-- {
		is := s.S.Lo >> i & 1
		if is != s.S.Hi>>i&1 {
			break
		}
		if s.T.M>>i&1 == 1 {
			s.T.M -= 1 << i
			s.T.V += is << i
		} else if s.T.V>>i&1 != is {
			return none, false
		}
	}
	return s, true
}

// toldSettle: turn by turn; no more than 64 bits can become known.
func toldSettle(t api.Tnum, s api.Span) (api.Scalar, bool) {
	x := api.Scalar{T: t, S: s}
	if t.V&t.M != 0 || s.Lo > s.Hi {
		return none, false
	}
	for range 70 {
		next, ok := toldTurn(x)
		if !ok || next == x {
			return next, ok
		}
		x = next
	}
	panic("it goes on and on")
}

func toldMay(s api.Scalar) bool {
	x, ok := toldSettle(s.T, s.S)
	return ok && x == s
}

func toldHas(s api.Scalar, n uint64) bool { return n&^s.T.M == s.T.V && s.S.Lo <= n && n <= s.S.Hi }

func isSingle(s api.Scalar) bool { return s.S.Hi == s.S.Lo }

func toldHalf(s api.Scalar) api.Scalar {
	if s.S.Hi < 1<<32 {
		return s
	}
	x, _ := toldSettle(api.Tnum{V: s.T.V % (1 << 32), M: s.T.M % (1 << 32)}, api.Span{Hi: low32})
	return x
}

// toldBits: the tnum of an operation, as chapter 9's calls make it.
func toldBits(op, size int, a, b api.Scalar) api.Tnum {
	two := map[int]func(a, b api.Tnum) (api.Tnum, api.Errno){word.Add: tnum.Add, word.Sub: tnum.Sub, word.Mul: tnum.Mul, word.Or: tnum.Or, word.And: tnum.And, word.Xor: tnum.Xor}
	t := api.Tnum{M: top}
	if do, is := two[op]; is {
		t, _ = do(a.T, b.T)
	}
	if op == word.Neg {
		t, _ = tnum.Sub(api.Tnum{}, a.T)
	}
	if op == word.Mov {
		t = b.T
	}
	if isSingle(b) {
		by := int(b.S.Lo & uint64(size-1))
		switch op {
		case word.Lsh:
			t, _ = tnum.Lsh(a.T, by)
		case word.Rsh:
			t, _ = tnum.Rsh(a.T, by)
		case word.Arsh:
			t, _ = tnum.Arsh(a.T, by, size)
		}
	}
	if size == 32 {
		t = api.Tnum{V: t.V % (1 << 32), M: t.M % (1 << 32)}
	}
	return t
}

// toldAlu: what Alu must tell of scalars that may be, and an operation.
func toldAlu(op int, wide bool, a, b api.Scalar) api.Scalar {
	size, all := 64, both(0, top, 0, top)
	if !wide {
		size, all = 32, both(0, low32, 0, low32)
		a, b = toldHalf(a), toldHalf(b)
	}
	s, _ := span.Alu(op, wide, a.S, b.S)
	if x, ok := toldSettle(toldBits(op, size, a, b), s); ok {
		return x
	}
	return all
}

// answer: what Refine answers.
type answer struct {
	a, b api.Scalar
	ok   bool
}

// settled: the answer of two scalars that are to be settled.
func settled(a, b api.Scalar) answer {
	x, okX := toldSettle(a.T, a.S)
	y, okY := toldSettle(b.T, b.S)
	if !okX || !okY {
		return answer{}
	}
	return answer{x, y, true}
}

func (r answer) turned() answer { return answer{r.b, r.a, r.ok} }

// toldRefine: what Refine must tell of scalars that may be, and a condition, point by point.
func toldRefine(op int, wide bool, a, b api.Scalar, holds bool) answer {
	opposite := map[int]int{word.Jeq: word.Jne, word.Jgt: word.Jle, word.Jge: word.Jlt, word.Jsgt: word.Jsle, word.Jsge: word.Jslt}
	if !holds {
		for x, y := range opposite {
			if op == x {
				op = y
				break
			} else if op == y {
				op = x
				break
			}
		}
	}
	same := answer{a, b, true}
	if !wide && (a.S.Hi >= 1<<32 || b.S.Hi >= 1<<32) {
		return same
	}
	if plain, is := map[int]int{word.Jsgt: word.Jgt, word.Jsge: word.Jge, word.Jslt: word.Jlt, word.Jsle: word.Jle}[op]; is {
		below := uint64(1) << 63
		if !wide {
			below = 1 << 31
		}
		if a.S.Hi >= below || b.S.Hi >= below {
			return same
		}
		op = plain
	}
	switch op {
	case word.Jeq:
		return toldSame(a, b)
	case word.Jne:
		return toldOther(a, b)
	case word.Jgt:
		return toldAbove(a, b)
	case word.Jge:
		return toldNotBelow(a, b)
	case word.Jlt:
		return toldAbove(b, a).turned()
	case word.Jle:
		return toldNotBelow(b, a).turned()
	}
	return toldCommon(a, b, holds)
}

func toldSame(a, b api.Scalar) answer {
	if (a.T.V^b.T.V)&^a.T.M&^b.T.M != 0 {
		return answer{}
	}
	m := both(a.T.V|b.T.V, a.T.M&b.T.M, max(a.S.Lo, b.S.Lo), min(a.S.Hi, b.S.Hi))
	return settled(m, m)
}

func toldOther(a, b api.Scalar) answer {
	if isSingle(a) && isSingle(b) {
		return answer{a, b, a.S.Lo != b.S.Lo}.orNone()
	}
	x, y := a, b
	if isSingle(b) {
		if a.S.Lo == b.S.Lo {
			x.S.Lo++
		} else if a.S.Hi == b.S.Lo {
			x.S.Hi--
		}
	}
	if isSingle(a) {
		if b.S.Lo == a.S.Lo {
			y.S.Lo++
		} else if b.S.Hi == a.S.Lo {
			y.S.Hi--
		}
	}
	return settled(x, y)
}

func (r answer) orNone() answer {
	if !r.ok {
		return answer{}
	}
	return r
}

func toldAbove(a, b api.Scalar) answer {
	if b.S.Lo == top || a.S.Hi == 0 {
		return answer{}
	}
	x, y := a, b
	if a.S.Lo <= b.S.Lo {
		x.S.Lo = b.S.Lo + 1
	}
	if b.S.Hi >= a.S.Hi {
		y.S.Hi = a.S.Hi - 1
	}
	return settled(x, y)
}

func toldNotBelow(a, b api.Scalar) answer {
	x, y := a, b
	if a.S.Lo < b.S.Lo {
		x.S.Lo = b.S.Lo
	}
	if b.S.Hi > a.S.Hi {
		y.S.Hi = a.S.Hi
	}
	return settled(x, y)
}

func toldCommon(a, b api.Scalar, holds bool) answer {
	x, may, is := a, false, false
	for i := range 64 {
		inA, inB := (a.T.V+a.T.M)>>i&1, (b.T.V+b.T.M)>>i&1
		may = may || inA+inB == 2
		is = is || a.T.V>>i&1 == 1 && b.T.V>>i&1 == 1
		if !holds && isSingle(b) && b.S.Lo>>i&1 == 1 {
			x.T.M &^= 1 << i
		}
	}
	if holds && !may || !holds && is {
		return answer{}
	}
	return settled(x, b)
}

// little: all scalars that may be, whose numbers are those below 2^count, from at on (a multiple of that).
func little(at uint64, count int) []api.Scalar {
	var l []api.Scalar
	end := uint64(1) << count
	for lo := range end {
		for hi := lo; hi < end; hi++ {
			for v := range end {
				for m := range end {
					if s := both(at+v, m, at+lo, at+hi); v&m == 0 && toldMay(s) {
						l = append(l, s)
					}
				}
			}
		}
	}
	return l
}

// bases: where little scalars lie.
var bases = []uint64{0, 56, 1<<31 - 8, 1 << 31, 1<<32 - 8, 1 << 32, 1<<63 - 8, 1 << 63, top - 7}

// littles hands on pairs of little scalars: all of one place, and each of another place with two of the same number.
func littles(f func(a, b api.Scalar)) {
	for _, at := range bases {
		l, few := little(at, 3), little(0, 2)
		for k, a := range l {
			for _, b := range few {
				f(a, b)
				f(b, a)
			}
			for j := k % 3; j < len(l); j += 3 {
				f(a, l[j])
			}
		}
	}
}

// held: all numbers that a little scalar holds.
func held(s api.Scalar) []uint64 {
	var l []uint64
	for n := s.S.Lo; ; n++ {
		if toldHas(s, n) {
			l = append(l, n)
		}
		if n == s.S.Hi {
			return l
		}
	}
}

// anyNumber: an edge, one beside it, a few bits, a row of them, or all by chance.
func anyNumber(chance *rand.Rand) uint64 {
	switch chance.Intn(6) {
	case 0:
		return edges[chance.Intn(len(edges))]
	case 1:
		return edges[chance.Intn(len(edges))] + uint64(chance.Intn(7)) - 3
	case 2:
		return 1<<chance.Intn(64) | 1<<chance.Intn(64)
	case 3:
		return top >> chance.Intn(64) << chance.Intn(64)
	case 4:
		return chance.Uint64() >> chance.Intn(64)
	}
	return chance.Uint64()
}

// anyWith: a scalar that holds n, or that n alone.
func anyWith(chance *rand.Rand, n uint64) api.Scalar {
	if chance.Intn(4) == 0 {
		return both(n, 0, n, n)
	}
	m, lo, hi := anyNumber(chance), anyNumber(chance), anyNumber(chance)
	switch chance.Intn(5) {
	case 0:
		lo, hi = n-min(n, uint64(chance.Intn(9))), n+min(top-n, uint64(chance.Intn(9)))
	case 1:
		m = top
	case 2:
		lo, hi = 0, top
	case 3:
		lo, hi = n, n|m
	}
	x, ok := toldSettle(api.Tnum{V: n &^ m, M: m}, api.Span{Lo: min(lo, hi, n), Hi: max(lo, hi, n)})
	if !ok {
		panic("n is held by both")
	}
	return x
}

// anyScalar: one that may be: now and then it holds nothing.
func anyScalar(chance *rand.Rand) api.Scalar {
	if chance.Intn(12) > 0 {
		return anyWith(chance, anyNumber(chance))
	}
	up := chance.Intn(61)
	l := []api.Scalar{both(1, 4, 2, 4), both(1, 4, 3, 4), both(2, 4, 3, 5), both(0, 7, 0, 6), both(0, 5, 1, 5)}
	s := l[chance.Intn(len(l))]
	return both(s.T.V<<up, s.T.M<<up, s.S.Lo<<up, s.S.Hi<<up)
}

// anyPair: two that may be; now and then they have a number in common, or an end.
func anyPair(chance *rand.Rand) (api.Scalar, api.Scalar) {
	a := anyScalar(chance)
	switch chance.Intn(5) {
	case 0:
		return a, anyWith(chance, a.S.Lo)
	case 1:
		return a, anyWith(chance, a.S.Hi)
	case 2:
		return a, scalar.Of(a.S.Hi + uint64(chance.Intn(3)) - 1)
	}
	return a, anyScalar(chance)
}

// badScalar: one that may not be.
func badScalar(chance *rand.Rand) api.Scalar {
	for {
		a, b := anyScalar(chance), anyScalar(chance)
		l := []api.Scalar{{T: a.T, S: b.S}, {T: a.T, S: api.Span{Lo: a.S.Hi, Hi: a.S.Lo}}, {T: api.Tnum{V: a.T.V | a.T.M, M: a.T.M}, S: a.S}, both(anyNumber(chance), anyNumber(chance), anyNumber(chance), anyNumber(chance))}
		if s := l[chance.Intn(len(l))]; !toldMay(s) {
			return s
		}
	}
}

// anyHeld: one of the numbers that s holds, if one was found.
func anyHeld(chance *rand.Rand, s api.Scalar) (uint64, bool) {
	for range 20 {
		n := anyNumber(chance)
		switch chance.Intn(4) {
		case 0:
			n = s.S.Lo
		case 1:
			n = s.S.Hi
		}
		n = s.T.V | n&s.T.M
		if toldHas(s, n) {
			return n, true
		}
	}
	return 0, false
}

// refuses: that a call answers this error, and nothing beside it.
func refuses(t *testing.T, name string, x api.Scalar, e, want api.Errno) {
	t.Helper()
	if x != none || e != want {
		t.Errorf("%s: %v, %d, not %d alone", name, x, e, want)
	}
}
