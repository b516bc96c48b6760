package scalar_test

import (
	"math/rand"
	"testing"

	"stockade/api"
	"stockade/scalar"
	"stockade/word"
)

// sound: that Alu's answer holds what the operation makes of x and y.
func sound(t *testing.T, op int, wide bool, a, b api.Scalar, x, y uint64) {
	t.Helper()
	s, e := scalar.Alu(op, wide, a, b)
	n, _ := word.Alu(op, wide, x, y)
	if e != 0 || !scalar.May(s) || !scalar.Has(s, n) {
		t.Fatalf("Alu(%d, %v, %v, %v): %v, %d: not %d of %d and %d", op, wide, a, b, s, e, n, x, y)
	}
	if !wide && s.S.Hi > low32 {
		t.Fatalf("Alu(%d, narrow, %v, %v): %v", op, a, b, s)
	}
}

func TestP11_6_LittleSound(t *testing.T) {
	l := little(0, 3)
	for _, op := range ops {
		for k, a := range l {
			for j := k % 5; j < len(l); j += 5 {
				b := l[j]
				s, e := scalar.Alu(op, k%2 == 0, a, b)
				if e != 0 {
					t.Fatal(op, a, b, e)
				}
				for _, x := range held(a) {
					for _, y := range held(b) {
						if n, _ := word.Alu(op, k%2 == 0, x, y); !toldHas(s, n) {
							t.Fatal(op, a, b, s, x, y, n)
						}
					}
				}
			}
		}
	}
}

func TestP11_6_Sound(t *testing.T) {
	chance := rand.New(rand.NewSource(116))
	for range 20000 {
		a, b := anyPair(chance)
		x, isX := anyHeld(chance, a)
		y, isY := anyHeld(chance, b)
		if !isX || !isY {
			continue
		}
		for _, wide := range yesNo {
			for _, op := range ops {
				sound(t, op, wide, a, b, x, y)
			}
		}
		for _, bits := range []int{16, 32, 64} {
			s, e := scalar.Swap(bits, a)
			n, _ := word.Swap(bits, x)
			if e != 0 || !scalar.May(s) || !scalar.Has(s, n) {
				t.Fatalf("Swap(%d, %v): %v, %d: not %d of %d", bits, a, s, e, n, x)
			}
		}
	}
}

func TestP11_6_Single(t *testing.T) {
	one := func(x, y uint64) {
		t.Helper()
		for _, op := range ops {
			for _, wide := range yesNo {
				n, _ := word.Alu(op, wide, x, y)
				if s, e := scalar.Alu(op, wide, scalar.Of(x), scalar.Of(y)); s != scalar.Of(n) || e != 0 {
					t.Fatalf("Alu(%d, %v) of %d and %d alone: %v, %d, not %d", op, wide, x, y, s, e, n)
				}
			}
		}
		for _, bits := range []int{16, 32, 64} {
			n, _ := word.Swap(bits, x)
			if s, e := scalar.Swap(bits, scalar.Of(x)); s != scalar.Of(n) || e != 0 {
				t.Fatalf("Swap(%d) of %d alone: %v, %d, not %d", bits, x, s, e, n)
			}
		}
	}
	for _, x := range edges {
		for _, y := range edges {
			one(x, y)
		}
	}
	chance := rand.New(rand.NewSource(216))
	for range 10000 {
		one(anyNumber(chance), anyNumber(chance))
	}
}

// keeps: that Refine loses neither x nor y, of which the condition holds, or not, and learns nothing else.
func keeps(t *testing.T, op int, wide bool, a, b api.Scalar, x, y uint64) {
	t.Helper()
	holds, _ := word.Cond(op, wide, x, y)
	c, d, is := scalar.Refine(op, wide, a, b, holds)
	if !is || !toldHas(c, x) || !toldHas(d, y) {
		t.Fatalf("Refine(%d, %v, %v, %v, %v): %v, %v, %v: not %d and %d", op, wide, a, b, holds, c, d, is, x, y)
	}
	less(t, a, c)
	less(t, b, d)
}

func less(t *testing.T, a, c api.Scalar) {
	t.Helper()
	if !scalar.In(c, a) {
		t.Fatal(c, "is not in", a)
	}
}

func TestP11_7_LittleKept(t *testing.T) {
	for _, at := range []uint64{0, 1<<31 - 8, 1<<32 - 8, 1<<63 - 8, top - 7} {
		l := little(at, 3)
		for k, a := range l {
			for j := k % 13; j < len(l); j += 13 {
				for _, x := range held(a) {
					for _, y := range held(l[j]) {
						for _, op := range conds {
							keeps(t, op, (k+j)%2 == 0, a, l[j], x, y)
						}
					}
				}
			}
		}
	}
}

func TestP11_7_Kept(t *testing.T) {
	chance := rand.New(rand.NewSource(117))
	for range 30000 {
		a, b := anyPair(chance)
		x, isX := anyHeld(chance, a)
		y, isY := anyHeld(chance, b)
		for _, op := range conds {
			for _, wide := range yesNo {
				if isX && isY {
					keeps(t, op, wide, a, b, x, y)
				}
				for _, holds := range yesNo {
					if c, d, is := scalar.Refine(op, wide, a, b, holds); is {
						less(t, a, c)
						less(t, b, d)
					}
				}
			}
		}
	}
}

func TestP11_8_Order(t *testing.T) {
	l := append(little(0, 3), all, none, one, of(top), ends(1, top), hollow7, hollowHigh)
	for _, a := range l {
		if !scalar.In(a, a) {
			t.Fatal(a)
		}
		for _, b := range l {
			in := scalar.In(a, b)
			if in && scalar.In(b, a) && a != b {
				t.Fatal("in one another, but not the same: ", a, b)
			}
			for k := 0; in && k < len(l); k++ {
				if scalar.In(b, l[k]) && !scalar.In(a, l[k]) {
					t.Fatal(a, b, l[k])
				}
			}
		}
	}
}

func TestP11_8_Join(t *testing.T) {
	l := append(little(0, 3), all, of(8), of(top), ends(1, top), hollow7, hollowHigh)
	for _, a := range l {
		for _, b := range l {
			join, e := scalar.Join(a, b)
			if e != 0 || !scalar.In(a, join) || !scalar.In(b, join) {
				t.Fatal(a, b, join, e)
			}
			for k := 0; k < len(l) && a.S.Lo <= b.S.Lo; k++ {
				if toldIn(a, l[k]) && toldIn(b, l[k]) && !toldIn(join, l[k]) {
					t.Fatal("Join is not the least: ", a, b, join, l[k])
				}
			}
		}
	}
}

func TestP11_8_Meet(t *testing.T) {
	l := little(0, 3)
	for _, a := range l {
		for _, b := range l {
			meet, is := scalar.Meet(a, b)
			for n := range uint64(8) {
				if toldHas(a, n) && toldHas(b, n) != (is && toldHas(meet, n)) || is && toldHas(meet, n) && !toldHas(a, n) {
					t.Fatal(a, b, meet, is, n)
				}
			}
		}
	}
	chance := rand.New(rand.NewSource(118))
	for range 30000 {
		a, b := anyPair(chance)
		meet, is := scalar.Meet(a, b)
		for _, s := range []api.Scalar{a, b, meet} {
			if n, ok := anyHeld(chance, s); ok && (toldHas(a, n) && toldHas(b, n)) != (is && scalar.Has(meet, n)) {
				t.Fatal(a, b, meet, is, n)
			}
		}
		if is && (!scalar.In(meet, a) || !scalar.In(meet, b)) {
			t.Fatal(a, b, meet)
		}
	}
}
