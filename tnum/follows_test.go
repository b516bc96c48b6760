package tnum_test

import (
	"math/rand"
	"slices"
	"testing"

	"stockade/api"
	"stockade/tnum"
	"stockade/word"
)

// sound: that a number is held by what a call answered.
func sound(t *testing.T, name string, x api.Tnum, e api.Errno, n uint64) {
	t.Helper()
	if e != 0 || !tnum.May(x) || !tnum.Has(x, n) {
		t.Fatalf("%s: %v, %d does not hold %d", name, x, e, n)
	}
}

func alu(op int, wide bool, x, y uint64) uint64 {
	n, _ := word.Alu(op, wide, x, y)
	return n
}

func TestP9_6_Sound(t *testing.T) {
	chance := rand.New(rand.NewSource(96))
	for range 30000 {
		a, b := anyTnum(chance), anyTnum(chance)
		x, y := anyHeld(chance, a), anyHeld(chance, b)
		for _, op := range []struct {
			op int
			do func(a, b api.Tnum) (api.Tnum, api.Errno)
		}{{word.Add, tnum.Add}, {word.Sub, tnum.Sub}, {word.Mul, tnum.Mul}, {word.And, tnum.And}, {word.Or, tnum.Or}, {word.Xor, tnum.Xor}} {
			z, e := op.do(a, b)
			sound(t, "of two", z, e, alu(op.op, true, x, y))
		}
		join, e := tnum.Join(a, b)
		sound(t, "Join", join, e, x)
		sound(t, "Join", join, e, y)
		lo, hi := min(x, y), max(x, y)
		r, e := tnum.Range(lo, hi)
		sound(t, "Range", r, e, lo)
		sound(t, "Range", r, e, hi)
		sound(t, "Range", r, e, lo+(hi-lo)/2)
	}
}

func TestP9_6_SoundProducts(t *testing.T) {
	for _, a := range append(little(0, 0), little(59, top)...) {
		for _, b := range little(0, 8) {
			z, e := tnum.Mul(a, b)
			for _, x := range held(a) {
				for _, y := range held(b) {
					if e != 0 || z.V&z.M != 0 || (x*y)&^z.M != z.V {
						t.Fatal(a, b, z, e, x, y)
					}
				}
			}
		}
	}
}

func TestP9_6_SoundShifts(t *testing.T) {
	chance := rand.New(rand.NewSource(196))
	for range 2000 {
		a := anyTnum(chance)
		x := anyHeld(chance, a)
		half, e := tnum.Cut(a, 32)
		sound(t, "Cut", half, e, x%(1<<32))
		for n := range 64 {
			by := uint64(n)
			z, e := tnum.Lsh(a, n)
			sound(t, "Lsh", z, e, alu(word.Lsh, true, x, by))
			z, e = tnum.Rsh(a, n)
			sound(t, "Rsh", z, e, alu(word.Rsh, true, x, by))
			z, e = tnum.Arsh(a, n, 64)
			sound(t, "Arsh of 64", z, e, alu(word.Arsh, true, x, by))
			if n < 32 {
				z, e = tnum.Arsh(a, n, 32)
				sound(t, "Arsh of 32", z, e, alu(word.Arsh, false, x, by))
				z, e = tnum.Rsh(half, n)
				sound(t, "Rsh of a half", z, e, alu(word.Rsh, false, x, by))
				z, _ = tnum.Lsh(half, n)
				z, e = tnum.Cut(z, 32)
				sound(t, "Lsh of a half", z, e, alu(word.Lsh, false, x, by))
			}
		}
	}
}

// several: tnums that lie in, beside and above one another.
func several() []api.Tnum {
	l := append(little(0, 0)[:81], little(59, 0)[:27]...)
	return append(l, api.Tnum{M: top}, api.Tnum{V: top}, api.Tnum{V: 1, M: top - 1}, api.Tnum{M: 1 << 63}, api.Tnum{V: 1 << 63, M: 15})
}

func TestP9_7_Order(t *testing.T) {
	l := several()
	for _, a := range l {
		if !tnum.In(a, a) {
			t.Fatal(a)
		}
		for _, b := range l {
			in := tnum.In(a, b)
			if in && tnum.In(b, a) && a != b {
				t.Fatal("in one another, but not the same: ", a, b)
			}
			for _, c := range l {
				if in && tnum.In(b, c) && !tnum.In(a, c) {
					t.Fatal(a, b, c)
				}
			}
		}
	}
}

func TestP9_7_LeastAndGreatest(t *testing.T) {
	l := several()
	for _, a := range l {
		for _, b := range l {
			join, e := tnum.Join(a, b)
			meet, is := tnum.Meet(a, b)
			if e != 0 || !tnum.In(a, join) || !tnum.In(b, join) || is && (!tnum.In(meet, a) || !tnum.In(meet, b)) {
				t.Fatal(a, b, join, e, meet, is)
			}
			for _, c := range l {
				if tnum.In(a, c) && tnum.In(b, c) && !tnum.In(join, c) {
					t.Fatal("Join is not the least: ", a, b, join, c)
				}
				if tnum.In(c, a) && tnum.In(c, b) && !(is && tnum.In(c, meet)) {
					t.Fatal("Meet is not the greatest: ", a, b, meet, is, c)
				}
			}
		}
	}
}

func TestP9_7_Count(t *testing.T) {
	chance := rand.New(rand.NewSource(97))
	for k := range 3000 {
		a := fewTnum(chance)
		l := held(a)
		slices.Sort(l)
		if tnum.Free(a) < 0 || len(l) != 1<<tnum.Free(a) || l[0] != a.V || l[len(l)-1] != a.V|a.M || len(slices.Compact(l)) != 1<<tnum.Free(a) {
			t.Fatal(a, l)
		}
		for _, n := range l {
			if !tnum.Has(a, n) {
				t.Fatal(a, n)
			}
		}
		if n := anyNumber(chance); tnum.Has(a, n) != slices.Contains(l, n) {
			t.Fatal(a, n)
		}
		if k < 30 {
			count := 0
			small := api.Tnum{V: a.V % 256 &^ a.M, M: a.M % 256}
			for n := range uint64(1024) {
				if tnum.Has(small, n) {
					count++
				}
			}
			if count != 1<<tnum.Free(small) {
				t.Fatal(small, count)
			}
		}
	}
}

func TestP9_8_Rings(t *testing.T) {
	chance := rand.New(rand.NewSource(98))
	none, one := tnum.Of(0), tnum.Of(1)
	call := func(do func(a, b api.Tnum) (api.Tnum, api.Errno), a, b api.Tnum) api.Tnum {
		x, e := do(a, b)
		if e != 0 {
			t.Fatal(a, b, e)
		}
		return x
	}
	for range 10000 {
		a, b := anyTnum(chance), anyTnum(chance)
		for _, x := range []api.Tnum{call(tnum.Add, a, none), call(tnum.Add, none, a), call(tnum.Sub, a, none), call(tnum.Mul, a, one), call(tnum.Mul, one, a), call(tnum.Sub, call(tnum.Add, a, b), b), call(tnum.Add, call(tnum.Sub, a, b), b)} {
			if !tnum.In(a, x) {
				t.Fatal(a, b, x)
			}
		}
		if x, y := call(tnum.Mul, a, none), call(tnum.Mul, none, a); x != none || y != none {
			t.Fatal(a, x, y)
		}
		n, m := tnum.Of(a.V), tnum.Of(b.V)
		if x, y := call(tnum.Sub, call(tnum.Add, n, m), m), call(tnum.Add, call(tnum.Sub, n, m), m); x != n || y != n {
			t.Fatal(n, m, x, y)
		}
		if x, y := call(tnum.Add, n, none), call(tnum.Mul, n, one); x != n || y != n {
			t.Fatal(n, x, y)
		}
	}
}

func TestExamples(t *testing.T) {
	join, _ := tnum.Join(tnum.Of(4), tnum.Of(6))
	if x, is := tnum.Meet(join, tnum.Of(5)); is || x != (api.Tnum{}) {
		t.Error(x, is)
	}
	if x, is := tnum.Meet(join, tnum.All()); !is || x != join {
		t.Error(x, is)
	}
	r, e := tnum.Range(1, 0)
	refuses(t, "Range", r, e)
	bad := api.Tnum{V: 1, M: 1}
	r, e = tnum.Add(bad, tnum.Of(1))
	refuses(t, "Add", r, e)
	if tnum.May(bad) || tnum.Free(bad) != -1 || tnum.Has(bad, 1) || tnum.Has(bad, 0) {
		t.Error("the tnum that may not be")
	}
}
