package span_test

import (
	"math/rand"
	"testing"

	"stockade/api"
	"stockade/span"
	"stockade/word"
)

func TestP10_5_Sound(t *testing.T) {
	for op := range opsEnd {
		chance := rand.New(rand.NewSource(int64(1050 + op)))
		for range 10000 {
			a, b := anySpan(chance), anySpan(chance)
			for _, wide := range []bool{true, false} {
				s, e := span.Alu(op, wide, a, b)
				for range 4 {
					x, y := anyHeld(chance, a), anyHeld(chance, b)
					n, _ := word.Alu(op, wide, x, y)
					if e != 0 || s.Lo > n || s.Hi < n || !span.Has(s, n) {
						t.Fatalf("Alu(%d, %v, %v, %v): %v, %d: not %d of %d and %d", op, wide, a, b, s, e, n, x, y)
					}
				}
			}
		}
	}
}

func TestP10_6_LeastAndGreatest(t *testing.T) {
	l := append(window(0, 5), window(top-3, 4)...)
	l = append(l, of(0, top), of(3, top-2), of(1, 1<<63), of(1<<63-1, 1<<63))
	for _, a := range l {
		for _, b := range l {
			join := span.Join(a, b)
			meet, is := span.Meet(a, b)
			if !span.In(a, join) || !span.In(b, join) || is && (!span.In(meet, a) || !span.In(meet, b)) {
				t.Fatal(a, b, join, meet, is)
			}
			for _, c := range l {
				if span.In(a, c) && span.In(b, c) && !span.In(join, c) {
					t.Fatal("Join is not the least: ", a, b, join, c)
				}
				if span.In(c, a) && span.In(c, b) && !(is && span.In(c, meet)) {
					t.Fatal("Meet is not the greatest: ", a, b, meet, is, c)
				}
			}
		}
	}
}

func TestP10_6_InGoesThrough(t *testing.T) {
	chance := rand.New(rand.NewSource(106))
	for range 10000 {
		a, b := anySpan(chance), anySpan(chance)
		c, d := wider(chance, a), wider(chance, b)
		if !span.In(a, c) || !span.In(b, d) {
			t.Fatal(a, b, c, d)
		}
		for op := range opsEnd {
			for _, wide := range []bool{true, false} {
				s, e := span.Alu(op, wide, a, b)
				for _, more := range [][2]api.Span{{c, b}, {a, d}, {c, d}} {
					r, f := span.Alu(op, wide, more[0], more[1])
					if e != 0 || f != 0 || !span.In(s, r) {
						t.Fatalf("op %d, %v: of %v, %v: %v; of %v: %v", op, wide, a, b, s, more, r)
					}
				}
			}
		}
		if !span.In(span.Join(a, b), span.Join(c, d)) || !span.In(span.Join(a, b), span.Join(a, d)) {
			t.Fatal("Join", a, b, c, d)
		}
		meet, is := span.Meet(a, b)
		if more, or := span.Meet(c, d); is && !(or && span.In(meet, more)) {
			t.Fatal("Meet", a, b, c, d, meet, more)
		}
		bits := chance.Intn(68) - 2
		if !span.In(span.Cut(a, bits), span.Cut(c, bits)) {
			t.Fatal("Cut", a, c, bits)
		}
	}
}

// The least and the greatest of little spans, on which Alu may not turn back either.
func TestP10_6_LittleGoesThrough(t *testing.T) {
	l := window(0, 6)
	for op := range opsEnd {
		of := map[[2]api.Span]api.Span{}
		for _, a := range l {
			for _, b := range l {
				of[[2]api.Span{a, b}], _ = span.Alu(op, true, a, b)
			}
		}
		for _, a := range l {
			for _, b := range l {
				for _, c := range l {
					if c.Lo <= a.Lo && a.Hi <= c.Hi {
						if !span.In(of[[2]api.Span{a, b}], of[[2]api.Span{c, b}]) || !span.In(of[[2]api.Span{b, a}], of[[2]api.Span{b, c}]) {
							t.Fatal(op, a, b, c)
						}
					}
				}
			}
		}
	}
}

// over: whether the product, or what is shifted up, is above the greatest number of its size.
func over(op int, wide bool, x, y uint64) bool {
	size := sizeOf(wide)
	if op == lsh {
		return whole(x&most(size)).BitLen()+int(y%uint64(size)) > size && x&most(size) != 0
	}
	n := whole(x & most(size))
	return op == mul && n.Mul(n, whole(y&most(size))).BitLen() > size
}

func TestP10_7_Single(t *testing.T) {
	one := func(op int, wide bool, x, y uint64) {
		t.Helper()
		s, e := span.Alu(op, wide, span.Of(x), span.Of(y))
		n, _ := word.Alu(op, wide, x, y)
		want := of(n, n)
		if over(op, wide, x, y) {
			want = of(0, most(sizeOf(wide)))
		}
		if s != want || e != 0 {
			t.Fatalf("Alu(%d, %v) of %d and %d alone: %v, %d, not %v", op, wide, x, y, s, e, want)
		}
	}
	for op := range opsEnd {
		for _, wide := range []bool{true, false} {
			for _, x := range edges {
				for _, y := range edges {
					one(op, wide, x, y)
				}
			}
			chance := rand.New(rand.NewSource(int64(1070 + op)))
			for range 5000 {
				one(op, wide, anyNumber(chance), anyNumber(chance))
			}
		}
	}
}
