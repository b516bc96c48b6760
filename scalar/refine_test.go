package scalar_test

import (
	"math/rand"
	"testing"

	"stockade/api"
	"stockade/scalar"
	"stockade/word"
)

// asked: a condition of two scalars, and what must be told.
type asked struct {
	op     int
	wide   bool
	a, b   api.Scalar
	holds  bool
	x, y   api.Scalar
	answer bool
}

// same: that the scalars are told as they are.
func same(op int, wide bool, a, b api.Scalar, holds bool) asked {
	return asked{op, wide, a, b, holds, a, b, true}
}

// never: that it can't be so.
func never(op int, wide bool, a, b api.Scalar, holds bool) asked {
	return asked{op, wide, a, b, holds, none, none, false}
}

func rows(t *testing.T, l []asked) {
	t.Helper()
	for k, q := range l {
		if x, y, is := scalar.Refine(q.op, q.wide, q.a, q.b, q.holds); x != q.x || y != q.y || is != q.answer {
			t.Errorf("row %d: Refine(%d, %v, %v, %v, %v): %v, %v, %v, not %v, %v, %v", k, q.op, q.wide, q.a, q.b, q.holds, x, y, is, q.x, q.y, q.answer)
		}
	}
}

func of(n uint64) api.Scalar { return both(n, 0, n, n) }

var all = both(0, top, 0, top)

// The first rule.
func TestP11_5_Narrow(t *testing.T) {
	half, more, below := both(0, low32, 0, low32), both(0, 1<<33-1, 0, 1<<32), both(0, low32, 0, low32-1)
	var l []asked
	for _, op := range conds {
		for _, holds := range yesNo {
			for _, a := range []api.Scalar{all, more, of(1 << 32), of(top), both(1<<32, low32, 1<<32, 1<<33-1), hollowHigh} {
				for _, b := range []api.Scalar{none, one, half, a, of(1<<32 + 5), hollow} {
					l = append(l, same(op, false, a, b, holds), same(op, false, b, a, holds))
				}
			}
		}
	}
	rows(t, l)
	rows(t, []asked{
		{word.Jeq, false, half, of(low32), true, of(low32), of(low32), true},
		{word.Jeq, false, of(low32), half, true, of(low32), of(low32), true},
		{word.Jgt, false, half, below, true, ends(1, low32), below, true},
		{word.Jgt, false, below, half, true, ends(1, low32-1), ends(0, low32-2), true},
		{word.Jgt, true, more, half, true, ends(1, 1<<32), half, true},
		{word.Jeq, true, more, half, true, half, half, true},
		never(word.Jeq, true, of(1<<32), none, true),
		never(word.Jset, true, of(1<<32), one, true),
		never(word.Jset, false, of(1<<31), one, true),
	})
}

// The second rule.
func TestP11_5_Signed(t *testing.T) {
	for _, x := range []struct {
		wide  bool
		below uint64
	}{{true, 1 << 63}, {false, 1 << 31}} {
		least, most := ends(0, x.below-1), ends(0, x.below)
		var l []asked
		for _, op := range []int{word.Jsgt, word.Jsge, word.Jslt, word.Jsle} {
			for _, holds := range yesNo {
				for _, a := range []api.Scalar{most, of(x.below), ends(x.below-1, x.below), ends(x.below, x.below*2-1)} {
					for _, b := range []api.Scalar{a, least, none, of(5), of(x.below - 1)} {
						l = append(l, same(op, x.wide, a, b, holds), same(op, x.wide, b, a, holds))
					}
				}
			}
		}
		rows(t, l)
		nine, up, down := of(9), ends(10, x.below-1), ends(0, 9)
		from, to := ends(9, x.below-1), ends(0, 8)
		rows(t, []asked{
			{word.Jsgt, x.wide, least, nine, true, up, nine, true},
			{word.Jsgt, x.wide, least, nine, false, down, nine, true},
			{word.Jsge, x.wide, least, nine, true, from, nine, true},
			{word.Jsge, x.wide, least, nine, false, to, nine, true},
			{word.Jslt, x.wide, least, nine, true, to, nine, true},
			{word.Jslt, x.wide, least, nine, false, from, nine, true},
			{word.Jsle, x.wide, least, nine, true, down, nine, true},
			{word.Jsle, x.wide, least, nine, false, up, nine, true},
			{word.Jsgt, x.wide, nine, least, true, nine, to, true},
			{word.Jslt, x.wide, nine, least, true, nine, up, true},
			{word.Jgt, x.wide, most, nine, true, ends(10, x.below), nine, true}, // without a sign
			{word.Jle, x.wide, most, of(x.below - 1), true, least, of(x.below - 1), true},
			{word.Jeq, x.wide, most, of(x.below), true, of(x.below), of(x.below), true},
			{word.Jne, x.wide, most, of(x.below), true, least, of(x.below), true},
		})
	}
	rows(t, []asked{
		{word.Jsgt, true, ends(0, 1<<31), of(9), true, ends(10, 1<<31), of(9), true},
		{word.Jsgt, true, ends(0, 1<<40), of(9), true, ends(10, 1<<40), of(9), true},
	})
}

// The third rule and the fourth.
func TestP11_5_EqualRows(t *testing.T) {
	rows(t, []asked{
		{word.Jeq, true, all, of(3), true, of(3), of(3), true},
		{word.Jeq, true, of(3), all, true, of(3), of(3), true},
		{word.Jne, true, all, of(3), false, of(3), of(3), true},
		{word.Jeq, true, both(0, 7, 1, 6), both(0, 15, 5, 9), true, both(4, 3, 5, 6), both(4, 3, 5, 6), true},
		{word.Jeq, true, both(0, 5, 1, 4), both(0, 6, 2, 4), true, both(0, 4, 2, 4), both(0, 4, 2, 4), true},
		same(word.Jeq, true, all, all, true), same(word.Jeq, true, hollow, hollow, true), same(word.Jeq, true, none, none, true), same(word.Jeq, true, of(top), of(top), true),
		never(word.Jeq, true, of(3), of(4), true), never(word.Jne, true, of(3), of(4), false), never(word.Jeq, true, ends(0, 3), ends(4, 7), true),
		never(word.Jeq, true, both(0, 6, 0, 6), both(1, 6, 1, 7), true),
		never(word.Jeq, true, both(0, 5, 1, 4), both(0, 2, 0, 2), true), // nothing is left
		never(word.Jeq, true, hollow, of(5), true),

		never(word.Jne, true, of(5), of(5), true), never(word.Jeq, true, of(5), of(5), false), never(word.Jne, true, none, none, true), never(word.Jne, true, of(top), of(top), true), never(word.Jne, false, of(low32), of(low32), true),
		same(word.Jne, true, of(5), of(6), true), same(word.Jne, true, of(6), of(5), true), same(word.Jeq, true, of(5), of(6), false),
		{word.Jne, true, ends(5, 9), of(5), true, ends(6, 9), of(5), true},
		{word.Jne, true, ends(5, 9), of(9), true, ends(5, 8), of(9), true},
		{word.Jne, true, of(5), ends(5, 9), true, of(5), ends(6, 9), true},
		{word.Jne, true, of(9), ends(5, 9), true, of(9), ends(5, 8), true},
		{word.Jeq, true, ends(5, 9), of(5), false, ends(6, 9), of(5), true},
		{word.Jeq, false, of(9), ends(5, 9), false, of(9), ends(5, 8), true},
		same(word.Jne, true, ends(5, 9), of(7), true), same(word.Jne, true, of(7), ends(5, 9), true), same(word.Jne, true, ends(5, 9), of(4), true), same(word.Jne, true, ends(5, 9), of(10), true), same(word.Jne, true, of(10), ends(5, 9), true), same(word.Jne, true, of(4), ends(5, 9), true),
		same(word.Jne, true, ends(5, 9), ends(5, 9), true), same(word.Jne, true, ends(5, 9), ends(9, 10), true), same(word.Jne, true, ends(5, 6), ends(4, 5), true),
		{word.Jne, true, both(0, 1, 0, 1), none, true, one, none, true},
		{word.Jne, true, both(0, 1, 0, 1), one, true, none, one, true},
		{word.Jne, true, none, both(0, 1, 0, 1), true, none, one, true},
		{word.Jne, true, all, none, true, ends(1, top), none, true},
		{word.Jne, true, all, of(top), true, ends(0, top-1), of(top), true},
		{word.Jne, true, of(top), all, true, of(top), ends(0, top-1), true},
		{word.Jne, true, both(0, 5, 2, 4), of(2), true, both(0, 5, 3, 4), of(2), true}, // 2 is an end, though it is not held
		{word.Jne, true, both(1, 4, 1, 4), of(4), true, one, of(4), true},              // 1 or 5, 1 to 3
		{word.Jne, true, both(1, 4, 1, 4), one, true, both(1, 4, 2, 4), one, true},
		{word.Jne, true, of(4), both(1, 4, 1, 4), true, of(4), one, true},
		never(word.Jne, true, both(1, 4, 3, 4), of(3), true), never(word.Jne, true, of(3), both(1, 4, 3, 4), true), // 1 or 5, 4 to 4
		{word.Jne, true, both(1, 4, 3, 5), of(5), true, both(1, 4, 3, 4), of(5), true}, // nothing is held, but the ends do not tell
	})
}

// The fifth rule.
func TestP11_5_OrderRows(t *testing.T) {
	rows(t, []asked{
		{word.Jgt, true, all, of(9), true, ends(10, top), of(9), true},
		{word.Jgt, true, all, of(9), false, both(0, 15, 0, 9), of(9), true},
		{word.Jle, true, all, of(9), true, ends(0, 9), of(9), true},
		{word.Jle, true, all, of(9), false, ends(10, top), of(9), true},
		{word.Jge, true, all, of(9), true, ends(9, top), of(9), true},
		{word.Jge, true, all, of(9), false, ends(0, 8), of(9), true},
		{word.Jlt, true, all, of(9), true, ends(0, 8), of(9), true},
		{word.Jlt, true, all, of(9), false, ends(9, top), of(9), true},
		{word.Jgt, true, of(9), all, true, of(9), ends(0, 8), true},
		{word.Jge, true, of(9), all, true, of(9), ends(0, 9), true},
		{word.Jlt, true, of(9), all, true, of(9), ends(10, top), true},
		{word.Jle, true, of(9), all, true, of(9), ends(9, top), true},
		never(word.Jlt, true, of(5), of(5), true), never(word.Jgt, true, of(5), of(5), true), same(word.Jge, true, of(5), of(5), true), same(word.Jle, true, of(5), of(5), true),
		{word.Jgt, true, ends(0, 10), ends(5, 20), true, ends(6, 10), ends(5, 9), true},
		{word.Jge, true, ends(0, 10), ends(5, 20), true, ends(5, 10), ends(5, 10), true},
		{word.Jlt, true, ends(0, 10), ends(5, 20), true, ends(0, 10), ends(5, 20), true},
		{word.Jlt, true, ends(5, 20), ends(0, 10), true, ends(5, 9), ends(6, 10), true},
		{word.Jle, true, ends(5, 20), ends(0, 10), true, ends(5, 10), ends(5, 10), true},
		{word.Jgt, true, ends(0, 6), ends(5, 9), true, of(6), of(5), true},
		never(word.Jgt, true, ends(0, 5), ends(5, 9), true), never(word.Jge, true, ends(0, 4), ends(5, 9), true), never(word.Jlt, true, ends(5, 9), ends(0, 5), true), never(word.Jle, true, ends(5, 9), ends(0, 4), true),
		{word.Jge, true, ends(0, 5), ends(5, 9), true, of(5), of(5), true},
		same(word.Jgt, true, ends(10, 20), ends(5, 9), true), same(word.Jgt, true, ends(7, 20), ends(6, 9), true), same(word.Jlt, true, ends(0, 4), ends(1, 9), true),

		never(word.Jgt, true, all, of(top), true), never(word.Jgt, true, none, all, true), never(word.Jgt, true, of(top), of(top), true), never(word.Jgt, true, none, none, true), never(word.Jgt, true, none, of(top), true),
		never(word.Jlt, true, of(top), all, true), never(word.Jlt, true, all, none, true), never(word.Jle, true, all, of(top), false), never(word.Jge, true, all, none, false),
		never(word.Jgt, false, both(0, low32, 0, low32), of(low32), true), never(word.Jgt, false, none, both(0, low32, 0, low32), true),
		{word.Jgt, true, of(top), all, true, of(top), ends(0, top-1), true},
		{word.Jgt, true, all, none, true, ends(1, top), none, true},
		{word.Jgt, true, all, all, true, ends(1, top), ends(0, top-1), true},
		{word.Jgt, true, all, of(top - 1), true, of(top), of(top - 1), true},
		{word.Jgt, true, one, all, true, one, none, true},
		{word.Jge, true, all, of(top), true, of(top), of(top), true},
		{word.Jge, true, none, all, true, none, none, true},
		{word.Jle, true, of(top), all, true, of(top), of(top), true},
		same(word.Jge, true, all, all, true), same(word.Jge, true, all, none, true), same(word.Jle, true, none, all, true), same(word.Jge, true, of(top), of(top), true), same(word.Jge, true, none, none, true),

		{word.Jgt, true, both(0, 10, 0, 9), ends(7, 20), true, of(8), ends(7, 8), true}, // b ends by where a ended first, at 9
		{word.Jlt, true, ends(7, 20), both(0, 10, 0, 9), true, ends(7, 8), of(8), true},
		{word.Jge, true, both(0, 10, 0, 9), ends(7, 20), true, both(0, 10, 7, 9), ends(7, 9), true},
		{word.Jgt, true, both(0, 5, 1, 4), ends(0, 9), true, both(0, 5, 1, 4), ends(0, 3), true},
		never(word.Jgt, true, ends(0, 4), both(1, 4, 2, 5), true), never(word.Jlt, true, both(1, 4, 2, 5), ends(0, 4), true), // nothing is left of 1 or 5, 2 to 3
		never(word.Jgt, true, both(1, 4, 1, 4), ends(3, 9), true), never(word.Jlt, true, ends(3, 9), both(1, 4, 1, 4), true), // of 1 or 5, 4 to 4
	})
}

// The sixth rule.
func TestP11_5_CommonRows(t *testing.T) {
	rows(t, []asked{
		{word.Jset, true, all, of(3), false, both(0, top-3, 0, top-3), of(3), true},
		same(word.Jset, true, all, of(3), true), same(word.Jset, true, of(3), all, true), same(word.Jset, true, all, all, true), same(word.Jset, true, all, all, false),
		never(word.Jset, true, of(4), of(3), true), never(word.Jset, true, none, all, true), never(word.Jset, true, all, none, true), never(word.Jset, true, both(0, 5, 0, 5), both(0, 2, 0, 2), true), never(word.Jset, true, both(8, 7, 8, 15), both(16, 32, 16, 48), true),
		same(word.Jset, true, both(0, 4, 0, 4), of(4), true), same(word.Jset, true, of(4), both(0, 4, 0, 4), true), same(word.Jset, true, both(0, 4, 0, 4), both(0, 4, 0, 4), true), same(word.Jset, true, of(6), of(2), true), same(word.Jset, true, of(1<<63), of(top), true), same(word.Jset, true, one, one, true),
		never(word.Jset, true, of(6), of(2), false), never(word.Jset, true, both(4, 3, 4, 7), of(4), false), never(word.Jset, true, of(4), both(4, 3, 4, 7), false), never(word.Jset, true, both(4, 3, 4, 7), both(4, 8, 4, 12), false), never(word.Jset, true, of(1<<63), of(1<<63), false),
		same(word.Jset, true, of(4), of(3), false), same(word.Jset, true, of(3), all, false), // of a single a nothing is told of b
		same(word.Jset, true, all, none, false), same(word.Jset, true, none, none, false), same(word.Jset, true, both(4, 3, 4, 7), of(8), false),
		{word.Jset, true, both(4, 3, 4, 7), one, false, both(4, 2, 4, 6), one, true},
		{word.Jset, true, both(0, 7, 3, 5), of(4), false, of(3), of(4), true},
		{word.Jset, true, both(0, 7, 1, 6), of(6), false, one, of(6), true},
		never(word.Jset, true, both(0, 12, 4, 11), of(12), false), // 0; 4 to 11
		same(word.Jset, true, both(0, 12, 4, 11), both(8, 4, 8, 12), false),
		{word.Jset, false, both(0, 12, 0, 12), of(4), false, both(0, 8, 0, 8), of(4), true},
		{word.Jset, false, both(0, low32, 0, low32), of(1 << 31), false, both(0, low32>>1, 0, low32>>1), of(1 << 31), true},
		same(word.Jset, true, hollow, hollow, true), never(word.Jset, true, hollow, hollow, false),
	})
}

func TestP11_5_Wrong(t *testing.T) {
	chance := rand.New(rand.NewSource(115))
	good := []api.Scalar{none, one, all, hollow, anyScalar(chance)}
	var l []asked
	for _, wide := range yesNo {
		for _, holds := range yesNo {
			for _, op := range noConds {
				for _, a := range good {
					l = append(l, never(op, wide, a, one, holds), never(op, wide, a, a, holds), never(op, wide, badScalar(chance), a, holds))
				}
			}
			for _, op := range conds {
				for _, bad := range append(bads(), badScalar(chance), badScalar(chance)) {
					for _, b := range good {
						l = append(l, never(op, wide, bad, b, holds), never(op, wide, b, bad, holds))
					}
					l = append(l, never(op, wide, bad, bad, holds))
				}
			}
		}
	}
	rows(t, l)
}

func refinesAsTold(t *testing.T, a, b api.Scalar) {
	t.Helper()
	for _, op := range conds {
		for _, wide := range yesNo {
			for _, holds := range yesNo {
				want := toldRefine(op, wide, a, b, holds)
				if x, y, is := scalar.Refine(op, wide, a, b, holds); want != (answer{x, y, is}) {
					t.Fatalf("Refine(%d, %v, %v, %v, %v): %v, %v, %v, not %v", op, wide, a, b, holds, x, y, is, want)
				}
			}
		}
	}
}

func TestP11_5_ByTheChapter(t *testing.T) {
	few := little(0, 2)
	for _, at := range bases {
		l := little(at, 3)
		for k, a := range l {
			refinesAsTold(t, a, few[k%len(few)])
			refinesAsTold(t, few[k%len(few)], a)
			for j := k % 11; j < len(l); j += 11 {
				refinesAsTold(t, a, l[j])
			}
		}
	}
	chance := rand.New(rand.NewSource(215))
	for range 20000 {
		a, b := anyPair(chance)
		refinesAsTold(t, a, b)
		refinesAsTold(t, b, a)
	}
}
