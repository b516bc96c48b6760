package span_test

import (
	"math/big"
	"math/rand"
	"testing"

	"stockade/api"
	"stockade/span"
)

const (
	errArg = 1
	top    = 1<<64 - 1
	low32  = 1<<32 - 1
)

// The operations, by layer 1's numbers.
const (
	add = iota
	sub
	mul
	div
	or
	and
	lsh
	rsh
	neg
	mod
	xor
	mov
	arsh
	opsEnd
)

var (
	edges = []uint64{0, 1, 2, 3, 5, 7, 8, 15, 31, 32, 33, 63, 64, 65, 127, 0xff, 0x100, 0xffff, 0x10000, 1<<31 - 1, 1 << 31, 1<<31 + 1, 1<<32 - 2, 1<<32 - 1, 1 << 32, 1<<32 + 1, 1 << 33, 1<<63 - 1, 1 << 63, 1<<63 + 1, top - 1, top, 0x5555555555555555, 0xaaaaaaaaaaaaaaaa}
	noOps = []int{-1, 13, 14, 15, 64, 256, 1 << 32, -13, -1 << 31, -1 << 63, 1<<63 - 1, 1<<32 + 1}
)

func of(lo, hi uint64) api.Span { return api.Span{Lo: lo, Hi: hi} }

func sizeOf(wide bool) int {
	if wide {
		return 64
	}
	return 32
}

// most: the greatest number of so many bits.
func most(size int) uint64 { return top >> (64 - size) }

func whole(n uint64) *big.Int { return new(big.Int).SetUint64(n) }

// toldArc: the span of all numbers from lo to hi, which have no end of their own, wrapped round at 2^size.
func toldArc(size int, lo, hi *big.Int) api.Span {
	round := new(big.Int).Lsh(big.NewInt(1), uint(size))
	if new(big.Int).Sub(hi, lo).Cmp(round) < 0 {
		first, last := new(big.Int).Mod(lo, round), new(big.Int).Mod(hi, round)
		if first.Cmp(last) <= 0 {
			return of(first.Uint64(), last.Uint64())
		}
	}
	return of(0, round.Sub(round, big.NewInt(1)).Uint64())
}

func toldCut(s api.Span, size int) api.Span { return toldArc(size, whole(s.Lo), whole(s.Hi)) }

// lean: which of their spans' ends two numbers have followed so far.
type lean struct{ aLo, aHi, bLo, bHi bool }

// toldEnd: the least (want 0) or the greatest (want 1) of what an operation makes of a and b bit by bit; bit 2y + x of table is what it makes of x and y. All ways that are as good are kept.
func toldEnd(a, b api.Span, table int, want uint64) uint64 {
	now, out := map[lean]bool{{true, true, true, true}: true}, uint64(0)
	for i := 63; i >= 0; i-- {
		next := [2]map[lean]bool{{}, {}}
		for l := range now {
			for way := range uint64(4) {
				x, y := way&1, way>>1
				aLo, aHi, bLo, bHi := a.Lo>>i&1, a.Hi>>i&1, b.Lo>>i&1, b.Hi>>i&1
				if l.aLo && x < aLo || l.aHi && x > aHi || l.bLo && y < bLo || l.bHi && y > bHi {
					continue
				}
				next[table>>way&1][lean{l.aLo && x == aLo, l.aHi && x == aHi, l.bLo && y == bLo, l.bHi && y == bHi}] = true
			}
		}
		bit := want
		if len(next[bit]) == 0 {
			bit = 1 - bit
		}
		now, out = next[bit], out<<1|bit
	}
	return out
}

func toldBits(a, b api.Span, table int) api.Span {
	return of(toldEnd(a, b, table, 0), toldEnd(a, b, table, 1))
}

// toldDiv: the ends among a's ends divided by 0, 1 and b's ends, as far as b holds them.
func toldDiv(a, b api.Span) api.Span {
	var l []uint64
	for _, n := range []uint64{0, 1, b.Lo, b.Hi} {
		if b.Lo <= n && n <= b.Hi {
			if n == 0 {
				l = append(l, 0)
			} else {
				l = append(l, a.Lo/n, a.Hi/n)
			}
		}
	}
	return ends(l)
}

// toldMod: by the chapter's words, in their order.
func toldMod(a, b api.Span) api.Span {
	if b == of(0, 0) || b.Lo > a.Hi {
		return a
	}
	if b.Lo == b.Hi && a.Lo/b.Lo == a.Hi/b.Lo {
		return of(a.Lo-a.Lo/b.Lo*b.Lo, a.Hi-a.Lo/b.Lo*b.Lo)
	}
	if b.Lo == 0 {
		return of(0, a.Hi)
	}
	if b.Hi-1 < a.Hi {
		return of(0, b.Hi-1)
	}
	return of(0, a.Hi)
}

// toldShift: shifts one by one, by all counts, of a's ends and of those beside which the sign changes.
func toldShift(op, size int, a, b api.Span) api.Span {
	from, to := b.Lo%uint64(size), b.Hi%uint64(size)
	if b.Hi-b.Lo >= uint64(size) || from > to {
		from, to = 0, uint64(size-1)
	}
	var l []uint64
	sign := uint64(1) << (size - 1)
	for k := from; k <= to; k++ {
		for _, n := range []uint64{a.Lo, sign - 1, sign, a.Hi} {
			if n < a.Lo || n > a.Hi {
				continue
			}
			x := whole(n)
			if op == arsh && n >= sign {
				x.Sub(x, new(big.Int).Lsh(big.NewInt(1), uint(size)))
			}
			if op == lsh {
				x.Lsh(x, uint(k))
				if x.BitLen() > size {
					return of(0, most(size))
				}
			} else {
				x.Rsh(x, uint(k)) // of numbers below 0 too, it rounds down
			}
			l = append(l, toldArc(size, x, x).Lo)
		}
	}
	return ends(l)
}

func toldMul(size int, a, b api.Span) api.Span {
	last := new(big.Int).Mul(whole(a.Hi), whole(b.Hi))
	if last.BitLen() > size {
		return of(0, most(size))
	}
	return of(a.Lo*b.Lo, last.Uint64())
}

// toldAlu: what Alu must tell of spans that may be.
func toldAlu(op int, wide bool, a, b api.Span) api.Span {
	size := sizeOf(wide)
	a, b = toldCut(a, size), toldCut(b, size)
	less := func(x, y uint64) *big.Int { return new(big.Int).Sub(whole(x), whole(y)) }
	switch op {
	case add:
		return toldArc(size, new(big.Int).Add(whole(a.Lo), whole(b.Lo)), new(big.Int).Add(whole(a.Hi), whole(b.Hi)))
	case sub:
		return toldArc(size, less(a.Lo, b.Hi), less(a.Hi, b.Lo))
	case neg:
		return toldArc(size, less(0, a.Hi), less(0, a.Lo))
	case mul:
		return toldMul(size, a, b)
	case div:
		return toldDiv(a, b)
	case or:
		return toldBits(a, b, 0b1110)
	case and:
		return toldBits(a, b, 0b1000)
	case xor:
		return toldBits(a, b, 0b0110)
	case lsh, rsh, arsh:
		return toldShift(op, size, a, b)
	case mod:
		return toldMod(a, b)
	}
	return b
}

// ends: the span of some numbers.
func ends(l []uint64) api.Span {
	s := of(l[0], l[0])
	for _, n := range l {
		s = of(min(s.Lo, n), max(s.Hi, n))
	}
	return s
}

// window: all spans among count numbers, from at on (which may not wrap round).
func window(at uint64, count int) []api.Span {
	var l []api.Span
	for i := range count {
		for j := i; j < count; j++ {
			l = append(l, of(at+uint64(i), at+uint64(j)))
		}
	}
	return l
}

// held: all numbers that a short span holds.
func held(s api.Span) []uint64 {
	l := []uint64{s.Lo}
	for n := s.Lo; n < s.Hi; n++ {
		l = append(l, n+1)
	}
	return l
}

// anyNumber: an edge, one beside it, a few bits, a row of them, or all by chance.
func anyNumber(chance *rand.Rand) uint64 {
	switch chance.Intn(6) {
	case 0:
		return edges[chance.Intn(len(edges))]
	case 1:
		return edges[chance.Intn(len(edges))] + uint64(chance.Intn(7)) - 3
	case 2:
		return 1<<chance.Intn(64) | 1<<chance.Intn(64)
	case 3:
		return top >> chance.Intn(64) << chance.Intn(64)
	case 4:
		return chance.Uint64() >> chance.Intn(64)
	}
	return chance.Uint64()
}

// anySpan: between two numbers, of few or of many, or with the same bits at the top.
func anySpan(chance *rand.Rand) api.Span {
	x, y := anyNumber(chance), anyNumber(chance)
	switch chance.Intn(5) {
	case 0:
		y = x
	case 1:
		y = x + uint64(chance.Intn(70)) - 3
	case 2:
		y = x ^ y>>chance.Intn(64)
	case 3:
		y = x ^ (1<<chance.Intn(64) - 1)
	}
	return of(min(x, y), max(x, y))
}

// badSpan: one that may not be.
func badSpan(chance *rand.Rand) api.Span {
	for {
		if s := anySpan(chance); s.Lo < s.Hi {
			return of(s.Hi, s.Lo)
		}
	}
}

// anyHeld: one of the numbers that s holds.
func anyHeld(chance *rand.Rand, s api.Span) uint64 {
	switch n := anyNumber(chance); {
	case chance.Intn(6) == 0:
		return s.Lo
	case chance.Intn(6) == 0:
		return s.Hi
	case s.Lo <= n && n <= s.Hi:
		return n
	case s.Hi-s.Lo == top:
		return n
	default:
		return s.Lo + n%(s.Hi-s.Lo+1)
	}
}

// wider: one that holds all that s holds.
func wider(chance *rand.Rand, s api.Span) api.Span {
	x := anySpan(chance)
	switch chance.Intn(4) {
	case 0:
		return of(s.Lo, max(s.Hi, x.Hi))
	case 1:
		return of(min(s.Lo, x.Lo), s.Hi)
	case 2:
		return of(s.Lo-min(s.Lo, uint64(chance.Intn(3))), s.Hi+min(top-s.Hi, uint64(chance.Intn(3))))
	}
	return of(min(s.Lo, x.Lo), max(s.Hi, x.Hi))
}

// refuses: that Alu answers ErrArg, and nothing beside it.
func refuses(t *testing.T, op int, a, b api.Span) {
	t.Helper()
	for _, wide := range []bool{true, false} {
		if s, e := span.Alu(op, wide, a, b); s != (api.Span{}) || e != errArg {
			t.Errorf("Alu(%d, %v, %v, %v): %v, %d, not ErrArg alone", op, wide, a, b, s, e)
		}
	}
}
