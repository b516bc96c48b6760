package span

import "stockade/api"

// pair is what is known of two numbers.
type pair struct{ a, b api.Span }

// bitwise answers the span of what Or, And or Xor makes of a and b. The greatest is the least of all results turned round.
func bitwise(op int, a, b api.Span) api.Span {
	or := func(x, y uint64) uint64 { return x | y }
	and := func(x, y uint64) uint64 { return x & y }
	xor := func(x, y uint64) uint64 { return x ^ y }
	switch op {
	case opOr:
		return api.Span{Lo: least(a, b, or), Hi: ^least(turned(a), turned(b), and)}
	case opAnd:
		return api.Span{Lo: least(a, b, and), Hi: ^least(turned(a), turned(b), or)}
	}
	return api.Span{Lo: least(a, b, xor), Hi: ^least(turned(a), b, xor)}
}

// turned answers the span of what s holds, each bit turned round.
func turned(s api.Span) api.Span { return api.Span{Lo: ^s.Hi, Hi: ^s.Lo} }

// least answers the least of what do makes of one number of a and one of b. Where several ways lead to the same bit it takes that of an upper half: cut off from its lower half, this holds all noughts below, with which no other way comes to less.
func least(a, b api.Span, do func(x, y uint64) uint64) uint64 {
	known := fromTop(pair{a, b}, func(known pair, bit uint64) pair {
		best, lowest := known, ^uint64(0)
		for _, way := range [4]struct{ x, y uint64 }{{bit, bit}, {bit, 0}, {0, bit}, {0, 0}} {
			x, isX := half(known.a, bit, way.x)
			y, isY := half(known.b, bit, way.y)
			if n := do(way.x, way.y); isX && isY && n < lowest {
				best, lowest = pair{x, y}, n
			}
		}
		return best
	})
	return do(known.a.Lo, known.b.Lo)
}

// fromTop goes through the bits from the highest one on: next takes what is known ahead of a bit, and answers what is known behind it.
func fromTop(known pair, next func(known pair, bit uint64) pair) pair {
	for bit := uint64(1) << 63; bit != 0; bit >>= 1 {
		known = next(known, bit)
	}
	return known
}

// half answers the part of s whose bit is as is says; the bits above it are the same in all of s.
func half(s api.Span, bit, is uint64) (api.Span, bool) {
	first := s.Hi&^(bit<<1-1) | is
	return Meet(s, api.Span{Lo: first, Hi: first | (bit - 1)})
}
