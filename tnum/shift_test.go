package tnum_test

import (
	"math/rand"
	"strings"
	"testing"

	"stockade/api"
	"stockade/tnum"
)

func TestP9_5_Rows(t *testing.T) {
	row := func(name string, x, want api.Tnum, e api.Errno) {
		t.Helper()
		if x != want || e != 0 {
			t.Errorf("%s: %v, %d, not %v", name, x, e, want)
		}
	}
	x, e := tnum.Lsh(api.Tnum{V: 4, M: 3}, 2)
	row("Lsh by 2", x, api.Tnum{V: 16, M: 12}, e)
	x, e = tnum.Lsh(api.Tnum{V: 1<<63 + 1, M: 1<<62 + 2}, 1)
	row("Lsh off the top", x, api.Tnum{V: 2, M: 1<<63 + 4}, e)
	x, e = tnum.Lsh(api.Tnum{M: top}, 63)
	row("Lsh by 63", x, api.Tnum{M: 1 << 63}, e)
	x, e = tnum.Lsh(api.Tnum{V: 4, M: 3}, 0)
	row("Lsh by 0", x, api.Tnum{V: 4, M: 3}, e)
	x, e = tnum.Rsh(api.Tnum{V: 16, M: 15}, 2)
	row("Rsh by 2", x, api.Tnum{V: 4, M: 3}, e)
	x, e = tnum.Rsh(api.Tnum{M: top}, 63)
	row("Rsh by 63", x, api.Tnum{M: 1}, e)
	x, e = tnum.Rsh(api.Tnum{V: 1 << 63, M: 1}, 1)
	row("Rsh: a nought comes in", x, api.Tnum{V: 1 << 62}, e)
	x, e = tnum.Arsh(api.Tnum{M: 1 << 31}, 4, 32)
	row("Arsh of 32 by 4", x, api.Tnum{M: 4160749568}, e)
	x, e = tnum.Arsh(api.Tnum{V: 1 << 31, M: 1 << 35}, 31, 32)
	row("Arsh of 32 by 31", x, api.Tnum{V: 1<<32 - 1}, e)
	x, e = tnum.Arsh(api.Tnum{V: 1 << 63, M: 1 << 31}, 0, 32)
	row("Arsh of 32 by 0", x, api.Tnum{M: 1 << 31}, e)
	x, e = tnum.Arsh(api.Tnum{V: 1 << 63, M: 1 << 61}, 62, 64)
	row("Arsh of 64 by 62", x, api.Tnum{V: top - 1}, e)
	x, e = tnum.Arsh(api.Tnum{V: 1 << 62, M: 1 << 63}, 63, 64)
	row("Arsh of 64 by 63", x, api.Tnum{M: top}, e)
	x, e = tnum.Arsh(api.Tnum{V: 1 << 31, M: 1 << 32}, 4, 64)
	row("Arsh of 64 by 4", x, api.Tnum{V: 1 << 27, M: 1 << 28}, e)
	x, e = tnum.Cut(tnum.Of(257), 8)
	row("Cut to 8", x, api.Tnum{V: 1}, e)
	x, e = tnum.Cut(api.Tnum{V: 1<<15 + 1<<16, M: 1<<14 + 1<<17}, 16)
	row("Cut to 16", x, api.Tnum{V: 1 << 15, M: 1 << 14}, e)
	x, e = tnum.Cut(api.Tnum{M: top}, 32)
	row("Cut to 32", x, api.Tnum{M: 1<<32 - 1}, e)
	x, e = tnum.Cut(api.Tnum{V: 1, M: top - 1}, 64)
	row("Cut to 64", x, api.Tnum{V: 1, M: top - 1}, e)
}

// The bits of a tnum moved as the chapter says, in letters.
func toldLsh(s string, n int) string { return strings.Repeat("0", n) + s[:64-n] }
func toldRsh(s string, n int) string { return s[n:] + strings.Repeat("0", n) }
func toldCut(s string, n int) string { return s[:n] + strings.Repeat("0", 64-n) }
func toldArsh(s string, n, size int) string {
	out := ""
	for i := range size {
		out += s[min(i+n, size-1):][:1]
	}
	return toldCut(out+s[size:], size)
}

func TestP9_5_ByTheChapter(t *testing.T) {
	chance := rand.New(rand.NewSource(95))
	for range 300 {
		a := anyTnum(chance)
		s := written(a)
		check := func(name string, n int, x api.Tnum, e api.Errno, want string) {
			if written(x) != want || e != 0 {
				t.Fatalf("%s of %s by %d: %s, %d, not %s", name, s, n, written(x), e, want)
			}
		}
		for n := range 64 {
			x, e := tnum.Lsh(a, n)
			check("Lsh", n, x, e, toldLsh(s, n))
			x, e = tnum.Rsh(a, n)
			check("Rsh", n, x, e, toldRsh(s, n))
			x, e = tnum.Arsh(a, n, 64)
			check("Arsh of 64", n, x, e, toldArsh(s, n, 64))
			if n < 32 {
				x, e = tnum.Arsh(a, n, 32)
				check("Arsh of 32", n, x, e, toldArsh(s, n, 32))
			}
		}
		for _, size := range []int{8, 16, 32, 64} {
			x, e := tnum.Cut(a, size)
			check("Cut", size, x, e, toldCut(s, size))
		}
	}
}

// The shifted numbers' best tnum, looked for among them; Arsh has it too.
func TestP9_5_Best(t *testing.T) {
	for _, at := range []int{0, 29, 59} {
		for k, a := range little(at, 0x8000000180000001) {
			n := k % 64
			var up, down, signed, half []uint64
			for _, x := range held(a) {
				up = append(up, x<<n)
				down = append(down, x>>n)
				signed = append(signed, uint64(int64(x)>>n))
				half = append(half, uint64(uint32(int32(x)>>(n%32))))
			}
			l, e := tnum.Lsh(a, n)
			r, f := tnum.Rsh(a, n)
			s, g := tnum.Arsh(a, n, 64)
			h, i := tnum.Arsh(a, n%32, 32)
			if l != best(up) || r != best(down) || s != best(signed) || h != best(half) || e+f+g+i != 0 {
				t.Fatal(a, n, l, r, s, h, e, f, g, i)
			}
		}
	}
}

func TestP9_5_Wrong(t *testing.T) {
	chance := rand.New(rand.NewSource(195))
	wrong := func(a api.Tnum, n, size int) {
		t.Helper()
		x, e := tnum.Arsh(a, n, size)
		refuses(t, "Arsh", x, e)
	}
	for range 200 {
		a, bad := anyTnum(chance), badTnum(chance)
		for n := range 64 {
			x, e := tnum.Lsh(bad, n)
			refuses(t, "Lsh of one that may not be", x, e)
			x, e = tnum.Rsh(bad, n)
			refuses(t, "Rsh of one that may not be", x, e)
			wrong(bad, n, 64)
			wrong(bad, n%32, 32)
		}
		for _, n := range noBits {
			x, e := tnum.Lsh(a, n)
			refuses(t, "Lsh by none", x, e)
			x, e = tnum.Rsh(a, n)
			refuses(t, "Rsh by none", x, e)
			wrong(a, n, 64)
			wrong(a, n, 32)
		}
		for n := 32; n < 64; n++ {
			wrong(a, n, 32)
		}
		for _, size := range append([]int{8, 16}, noSizes...) {
			wrong(a, 0, size)
			wrong(a, 1, size)
			wrong(a, -1, size)
			wrong(a, size-1, size)
		}
		for _, size := range noSizes {
			x, e := tnum.Cut(a, size)
			refuses(t, "Cut to none", x, e)
		}
		for _, size := range []int{8, 16, 32, 64} {
			x, e := tnum.Cut(bad, size)
			refuses(t, "Cut of one that may not be", x, e)
		}
	}
}
