package graph_test

import (
	"math/rand"
	"slices"
	"testing"

	"stockade/api"
	"stockade/graph"
	"stockade/insn"
)

// ordered hands on codes without a loop with their rows: little ones, and such as are as long as programs may be.
func ordered(t *testing.T, seed int64, f func(code []api.Insn, row []int)) {
	t.Helper()
	chance := rand.New(rand.NewSource(seed))
	count, back := 0, 0
	for n := range 12000 {
		places := n % 40
		if n%20 == 0 {
			places = 512 - chance.Intn(40)
		}
		code := anyCode(chance, places, 12)
		if n%3 > 0 {
			code = woven(chance, places)
		}
		row, e := graph.Order(code)
		if e != api.OK {
			continue
		}
		count++
		if !slices.IsSorted(row) {
			back++
		}
		f(code, row)
	}
	if count < 4000 || back < 400 {
		t.Error("too few codes without a loop, or that lead back: ", count, back)
	}
}

func TestP5_6_LeastThatMayStand(t *testing.T) {
	ordered(t, 61, func(code []api.Insn, row []int) {
		reached := graph.Reached(code)
		waits := map[int]int{} // for how many that are reached and not placed
		for at := range code {
			if reached[at] {
				waits[at] += 0
				for _, to := range graph.Next(code, at) {
					waits[to]++
				}
			}
		}
		for _, at := range row {
			for other, n := range waits {
				if n == 0 && other < at {
					t.Fatalf("%+v: %v: %d stands where %d may", code, row, at, other)
				}
			}
			if n, is := waits[at]; !is || n != 0 {
				t.Fatalf("%+v: %v: %d stands too early, or should not", code, row, at)
			}
			delete(waits, at)
			for _, to := range graph.Next(code, at) {
				waits[to]--
			}
		}
		if len(waits) != 0 {
			t.Fatalf("%+v: %v: not all stand there", code, row)
		}
	})
}

// longestTo: how many starts the longest way to a start has ahead of it, found by going on till nothing changes.
func longestTo(code []api.Insn, row []int) map[int]int {
	long := map[int]int{}
	for changed := true; changed; {
		changed = false
		for _, at := range row {
			for _, to := range graph.Next(code, at) {
				if n := long[at] + 1; n > long[to] {
					long[to], changed = n, true
				}
			}
		}
	}
	return long
}

func TestP5_6_UnlikeLengths(t *testing.T) {
	ordered(t, 62, func(code []api.Insn, row []int) {
		long := longestTo(code, row)
		most := 0
		for _, at := range row {
			most = max(most, long[at]+1)
			for _, to := range graph.Next(code, at) {
				if long[at] >= long[to] {
					t.Fatalf("%+v: %d leads to %d: %d, %d", code, at, to, long[at], long[to])
				}
			}
		}
		if n, e := graph.Longest(code); n != most || e != api.OK {
			t.Fatalf("%+v: %d, %d, not %d", code, n, e, most)
		}
	})
}

// alike fails where two codes are not told the same of.
func alike(t *testing.T, a, b []api.Insn) {
	t.Helper()
	for at := -1; at <= len(a); at++ {
		if l, k := graph.Next(a, at), graph.Next(b, at); !slices.Equal(l, k) {
			t.Fatalf("%+v, %+v: Next of %d: %v, %v", a, b, at, l, k)
		}
	}
	if l, k := graph.Reached(a), graph.Reached(b); !slices.Equal(l, k) {
		t.Fatalf("%+v, %+v: %v, %v", a, b, l, k)
	}
	row, e := graph.Order(a)
	other, f := graph.Order(b)
	if !slices.Equal(row, other) || e != f {
		t.Fatalf("%+v, %+v: %v, %d, %v, %d", a, b, row, e, other, f)
	}
	n, e := graph.Longest(a)
	m, f := graph.Longest(b)
	if n != m || e != f || graph.Dead(a) != graph.Dead(b) {
		t.Fatalf("%+v, %+v: %d, %d, %d, %d; %d, %d", a, b, n, e, m, f, graph.Dead(a), graph.Dead(b))
	}
}

func TestP5_7_SecondHalves(t *testing.T) {
	chance := rand.New(rand.NewSource(63))
	count := 0
	for n := range 8000 {
		code := anyCode(chance, n%32, 1+n%12)
		at := toldStarts(code)
		for range 4 {
			other := slices.Clone(code)
			for a := range other {
				if !slices.Contains(at, a) {
					other[a] = pick(chance, anyOne(chance), none, exit, mov, wide, ref, leap(-2), jump(-3), jump(1))
					count++
				}
			}
			alike(t, code, other)
		}
	}
	if count < 20000 {
		t.Error("too few second halves: ", count)
	}
}

func TestP5_7_Registers(t *testing.T) {
	chance := rand.New(rand.NewSource(64))
	count := 0
	for n := range 8000 {
		code := anyCode(chance, n%32, 1+n%12)
		for range 4 {
			other := slices.Clone(code)
			for _, at := range toldStarts(code) {
				w, e := insn.Of(code[at])
				if e != api.OK {
					continue
				}
				i := code[at]
				i.Dst, i.Src = pick(chance, i.Dst, byte(chance.Intn(11))), pick(chance, i.Src, byte(chance.Intn(11)))
				// what Of takes as the same thing has registers that may stand there
				if v, e := insn.Of(i); e == api.OK && v == w && i != other[at] {
					other[at] = i
					count++
				}
			}
			alike(t, code, other)
		}
	}
	if count < 50000 {
		t.Error("too few other registers: ", count)
	}
}

// A register that may not stand there makes an instruction none: that is told.
func TestP5_7_RegistersThatMayNot(t *testing.T) {
	for k, i := range rows(mov, wide, ref, jump(1), api.Insn{Op: 0x79}, api.Insn{Op: 0x7b}) {
		code := rows(i, none, exit)
		bad := slices.Clone(code)
		bad[0].Dst = 11
		if l := graph.Next(code, 0); len(l) == 0 {
			t.Error(k, l)
		}
		if l := graph.Next(bad, 0); len(l) != 0 {
			t.Error(k, l)
		}
		if n, e := graph.Longest(bad); n != 1 || e != api.OK || graph.Dead(bad) != 1 {
			t.Error(k, n, e, graph.Dead(bad))
		}
	}
}
