package tnum_test

import (
	"math/bits"
	"math/rand"
	"strings"
	"testing"

	"stockade/api"
	"stockade/tnum"
)

const (
	errArg = 1
	top    = 1<<64 - 1
)

var (
	edges   = []uint64{0, 1, 2, 3, 7, 8, 0x7f, 0x80, 0xff, 0x100, 0xffff, 0x10000, 1<<31 - 1, 1 << 31, 1<<32 - 1, 1 << 32, 1<<32 + 1, 1<<63 - 1, 1 << 63, 1<<63 + 1, top - 1, top, 0x5555555555555555, 0xaaaaaaaaaaaaaaaa}
	noBits  = []int{-1, 64, 65, -64, -1 << 31, 1 << 32, 1<<62 + 3, 1<<63 - 1, -1 << 63}
	noSizes = []int{0, 1, -1, 7, 9, 15, 17, 24, 31, 33, 48, 63, 65, 96, 128, 256, -8, -32, -64, 1<<32 + 32, 1<<63 - 1, -1 << 63}
)

// two: a call on two tnums; on numbers, what it works out; and its best answer, bit by bit.
type two struct {
	name string
	do   func(a, b api.Tnum) (api.Tnum, api.Errno)
	of   func(x, y uint64) uint64
	told func(a, b api.Tnum) api.Tnum
}

func twos() []two {
	return []two{
		{"Add", tnum.Add, func(x, y uint64) uint64 { return x + y }, func(a, b api.Tnum) api.Tnum { return toldSum(a, b, 1) }},
		{"Sub", tnum.Sub, func(x, y uint64) uint64 { return x - y }, func(a, b api.Tnum) api.Tnum { return toldSum(a, b, -1) }},
		{"And", tnum.And, func(x, y uint64) uint64 { return x & y }, func(a, b api.Tnum) api.Tnum { return toldEach(a, b, 0b1000) }},
		{"Or", tnum.Or, func(x, y uint64) uint64 { return x | y }, func(a, b api.Tnum) api.Tnum { return toldEach(a, b, 0b1110) }},
		{"Xor", tnum.Xor, func(x, y uint64) uint64 { return x ^ y }, func(a, b api.Tnum) api.Tnum { return toldEach(a, b, 0b0110) }},
	}
}

// written: a tnum's bits as 64 letters, bit 0 first: 0, 1, ? (any), ! (in both V and M).
func written(t api.Tnum) string {
	l := make([]byte, 64)
	for i := range l {
		l[i] = "01?!"[t.V>>i&1|t.M>>i&1<<1]
	}
	return string(l)
}

func read(s string) api.Tnum {
	var t api.Tnum
	for i := range 64 {
		switch s[i] {
		case '1':
			t.V += 1 << i
		case '?':
			t.M += 1 << i
		}
	}
	return t
}

// choices: what a bit may be.
func choices(letter byte) []int {
	return map[byte][]int{'0': {0}, '1': {1}, '?': {0, 1}}[letter]
}

// letter: the bit that may be what is in seen.
func letter(seen [2]bool) string {
	return map[[2]bool]string{{true, false}: "0", {false, true}: "1", {true, true}: "?"}[seen]
}

// toldSum: the best sum (sign 1) or difference (sign -1), from bit 0 on by what may be carried to each bit.
func toldSum(a, b api.Tnum, sign int) api.Tnum {
	s, t, out := written(a), written(b), ""
	carried := [2]bool{true, false}
	for i := range 64 {
		var seen, next [2]bool
		for _, x := range choices(s[i]) {
			for _, y := range choices(t[i]) {
				for c, is := range carried {
					if is {
						n := x + sign*(y+c)
						seen[n&1] = true
						next[n>>1&1] = true
					}
				}
			}
		}
		out += letter(seen)
		carried = next
	}
	return read(out)
}

// toldEach: the best answer of an operation bit by bit; bit 2y + x of table is what it makes of x and y.
func toldEach(a, b api.Tnum, table int) api.Tnum {
	s, t, out := written(a), written(b), ""
	for i := range 64 {
		var seen [2]bool
		for _, x := range choices(s[i]) {
			for _, y := range choices(t[i]) {
				seen[table>>(2*y+x)&1] = true
			}
		}
		out += letter(seen)
	}
	return read(out)
}

// toldMul: the sum over the bits of a, by the chapter's words.
func toldMul(a, b api.Tnum) api.Tnum {
	sum := api.Tnum{}
	for i, bit := range []byte(written(a)) {
		up := strings.Repeat("0", i) + written(b)[:64-i]
		switch bit {
		case '1':
			sum = toldSum(sum, read(up), 1)
		case '?':
			sum = toldSum(sum, read(strings.ReplaceAll(up, "1", "?")), 1)
		}
	}
	return sum
}

// held: all numbers that t holds.
func held(t api.Tnum) []uint64 {
	l := []uint64{t.V}
	for i := range 64 {
		if t.M>>i&1 == 1 {
			for _, n := range l {
				l = append(l, n+1<<i)
			}
		}
	}
	return l
}

// best: a number's bit is any in it, if two of the numbers differ there.
func best(l []uint64) api.Tnum {
	t := api.Tnum{V: l[0]}
	for _, n := range l {
		t.M |= l[0] ^ n
	}
	t.V &^= t.M
	return t
}

// little: all tnums whose bits are those of rest, but for five, from at on.
func little(at int, rest uint64) []api.Tnum {
	l := []api.Tnum{{V: rest &^ (31 << at)}}
	for i := at; i < at+5; i++ {
		for _, t := range l {
			l = append(l, api.Tnum{V: t.V | 1<<i, M: t.M}, api.Tnum{V: t.V, M: t.M | 1<<i})
		}
	}
	return l
}

// littles hands on all pairs of little tnums, at several places.
func littles(f func(a, b api.Tnum)) {
	for _, at := range []int{0, 29, 59} {
		for _, rest := range []uint64{0, top} {
			for _, a := range little(at, rest) {
				for _, b := range little(at, 0) {
					f(a, b)
				}
			}
		}
	}
}

// anyNumber: an edge, one beside it, a few bits, a row of them, or all by chance.
func anyNumber(chance *rand.Rand) uint64 {
	switch chance.Intn(5) {
	case 0:
		return edges[chance.Intn(len(edges))]
	case 1:
		return edges[chance.Intn(len(edges))] + uint64(chance.Intn(7)) - 3
	case 2:
		return 1<<chance.Intn(64) | 1<<chance.Intn(64)
	case 3:
		return top >> chance.Intn(64) << chance.Intn(64)
	}
	return chance.Uint64()
}

func anyTnum(chance *rand.Rand) api.Tnum {
	t := api.Tnum{V: anyNumber(chance), M: anyNumber(chance)}
	if chance.Intn(2) == 0 {
		t.V &^= t.M
	} else {
		t.M &^= t.V
	}
	return t
}

// badTnum: one that may not be.
func badTnum(chance *rand.Rand) api.Tnum {
	t := anyTnum(chance)
	both := uint64(1) << chance.Intn(64)
	t.V |= both
	t.M |= both
	return t
}

// anyHeld: one of the numbers that t holds.
func anyHeld(chance *rand.Rand, t api.Tnum) uint64 { return t.V + t.M&anyNumber(chance) }

// fewTnum: one that holds at most 16 numbers.
func fewTnum(chance *rand.Rand) api.Tnum {
	t := anyTnum(chance)
	for bits.OnesCount64(t.M) > 4 {
		t.M &= chance.Uint64()
	}
	return t
}

// refuses: that a call answers ErrArg, and nothing beside it.
func refuses(t *testing.T, name string, x api.Tnum, e api.Errno) {
	t.Helper()
	if x != (api.Tnum{}) || e != errArg {
		t.Errorf("%s: %v, %d, not ErrArg alone", name, x, e)
	}
}
