package scalar_test

import (
	"math/rand"
	"testing"

	"stockade/api"
	"stockade/scalar"
)

func TestP11_1_SettleRows(t *testing.T) {
	for k, x := range []struct {
		s, want api.Scalar
		ok      bool
	}{
		{both(4, 3, 0, 5), both(4, 1, 4, 5), true},
		{both(1, 0, 2, 3), none, false},
		{both(0, top, 0, top), both(0, top, 0, top), true},
		{both(0, top, 5, 5), both(5, 0, 5, 5), true},
		{both(5, 0, 0, top), both(5, 0, 5, 5), true},
		{both(0, 0, 0, 0), both(0, 0, 0, 0), true},
		{both(top, 0, top, top), both(top, 0, top, top), true},
		{both(0, top, 1<<63, top), both(1<<63, 1<<63-1, 1<<63, top), true},
		{both(0, top, 0, 1<<63), both(0, top, 0, 1<<63), true},
		{both(0, top, 10, top), both(0, top, 10, top), true},
		{both(0, top, 8, 11), both(8, 3, 8, 11), true},
		{both(0, top, 7, 8), both(0, 15, 7, 8), true},
		{both(0, 7, 0, top), both(0, 7, 0, 7), true},
		{both(8, 7, 0, top), both(8, 7, 8, 15), true},
		{both(1, 6, 0, 6), both(1, 6, 1, 6), true},
		{both(52, 10, 56, 61), both(60, 0, 60, 60), true}, // 52, 54, 60 or 62; 60 or 62, 60 to 61; 60
		{both(41, 18, 42, 47), both(43, 0, 43, 43), true}, // 41, 43, 57 or 59; 41 or 43, 42 to 43; 43
		{both(40, 22, 53, 59), both(56, 2, 56, 58), true}, // bits 1, 2 and 4 are any; 1 and 2, 56 to 59; 56 or 58
		{both(56, 4, 57, 59), none, false},                // 56 or 60; 56, 57 to 59
		{both(0, 5, 2, 3), none, false},                   // bit 1 is 0; it is 1 from 2 to 3
		{both(0, 5, 2, 4), both(0, 5, 2, 4), true},        // 4 alone is held, but the ends do not tell
		{both(3, 8, 4, 10), both(3, 8, 4, 10), true},      // nothing is held, but the ends do not tell
		{both(3, 8, 8, 14), both(11, 0, 11, 11), true},    // 3 or 11, 8 to 11; 11
		{both(3, 8, 4, 7), none, false},                   // bit 2 is 0; it is 1 from 4 to 7
		{both(0, 7, 8, 9), none, false},                   // the ends do not touch
		{both(8, 7, 0, 7), none, false},
		{both(8, 7, 0, 8), both(8, 0, 8, 8), true},
		{both(0, 7, 7, 9), both(7, 0, 7, 7), true},
		{both(0, low32, 0, 1<<32), both(0, low32, 0, low32), true},
		{both(0, 1<<33-1, 0, low32), both(0, low32, 0, low32), true},
		{both(1, 1, 0, 1), none, false},
		{both(3, 1, 3, 3), none, false},
		{both(top, top, 0, top), none, false},
		{both(1<<63, 1<<63, 1<<63, 1<<63), none, false},
		{both(0, top, 1, 0), none, false},
		{both(0, top, top, 0), none, false},
		{both(0, 0, 1, 0), none, false},
		{both(1, 1, 1, 0), none, false},
	} {
		if s, ok := scalar.Settle(x.s.T, x.s.S); s != x.want || ok != x.ok {
			t.Errorf("row %d: Settle(%v, %v): %v, %v, not %v, %v", k, x.s.T, x.s.S, s, ok, x.want, x.ok)
		}
	}
}

// raw: whatever may be written of numbers below 2^count, from at on: much of it may not be, most of it settling changes.
func raw(at uint64, count int) []api.Scalar {
	var l []api.Scalar
	for k := range uint64(1) << (4 * count) {
		part := func(i int) uint64 { return k >> (i * count) & (1<<count - 1) }
		l = append(l, both(at+part(0), part(1), at+part(2), at+part(3)))
	}
	return l
}

// settles: that Settle and May say of s what the chapter's words do, and of what is settled what follows from them.
func settles(t *testing.T, s api.Scalar) {
	t.Helper()
	want, is := toldSettle(s.T, s.S)
	x, ok := scalar.Settle(s.T, s.S)
	if x != want || ok != is {
		t.Fatalf("Settle(%v): %v, %v, not %v, %v", s, x, ok, want, is)
	}
	if scalar.May(s) != (is && want == s) {
		t.Fatalf("May(%v): %v", s, scalar.May(s))
	}
	if again, still := scalar.Settle(x.T, x.S); ok && (again != x || !still || !scalar.May(x)) {
		t.Fatalf("Settle(%v): %v, which becomes %v", s, x, again)
	}
}

func TestP11_1_SettleByTheChapter(t *testing.T) {
	l := raw(0, 4)
	for _, at := range bases {
		l = append(l, raw(at, 3)...)
	}
	for _, s := range l {
		settles(t, s)
		x, ok := scalar.Settle(s.T, s.S)
		if s.T.V&s.T.M != 0 || s.S.Lo > s.S.Hi {
			continue
		}
		for n := s.S.Lo; ; n++ {
			if toldHas(s, n) && !(ok && toldHas(x, n)) || ok && toldHas(x, n) && !toldHas(s, n) {
				t.Fatal(s, x, ok, n)
			}
			if n == s.S.Hi {
				break
			}
		}
	}
	chance := rand.New(rand.NewSource(111))
	for range 100000 {
		a, b := anyScalar(chance), anyScalar(chance)
		settles(t, api.Scalar{T: a.T, S: b.S})
		settles(t, both(a.T.V, a.T.M, a.S.Lo, max(a.S.Lo, b.S.Hi)))
		settles(t, both(anyNumber(chance), anyNumber(chance), anyNumber(chance), anyNumber(chance)))
	}
}

func TestP11_1_MayRows(t *testing.T) {
	for _, s := range []api.Scalar{none, one, hollow, hollow7, hollowHigh, both(top, 0, top, top), both(0, top, 0, top), both(0, 7, 0, 7), both(0, 7, 1, 6), both(0, 5, 2, 4), both(0, 1, 0, 1), both(8, 1, 8, 9), both(0, top, 1<<63-1, 1<<63), both(0, top, 1, top), both(1<<32, low32, 1<<32, 1<<33-1)} {
		if !scalar.May(s) {
			t.Error(s, "may be")
		}
	}
	for _, s := range bads() {
		if scalar.May(s) {
			t.Error(s, "may not be")
		}
	}
}

func TestP11_1_Made(t *testing.T) {
	for _, n := range edges {
		if s := scalar.Of(n); s != both(n, 0, n, n) || !scalar.May(s) {
			t.Error("Of", n, "is", s)
		}
	}
	if s := scalar.All(); s != both(0, top, 0, top) {
		t.Error("All is ", s)
	}
	for bits, want := range map[int]uint64{8: 255, 16: 65535, 32: low32, 64: top} {
		if s := scalar.Below(bits); s != both(0, want, 0, want) {
			t.Error("Below", bits, "is", s)
		}
	}
	for _, bits := range noBits {
		if s := scalar.Below(bits); s != none || !scalar.Has(s, 0) || scalar.Has(s, 1) {
			t.Error("Below", bits, "is", s)
		}
	}
	for bits := range 200 {
		if s := scalar.Below(bits); (s == none) != (bits != 8 && bits != 16 && bits != 32 && bits != 64) {
			t.Error("Below", bits, "is", s)
		}
	}
}

func TestP11_1_HasRows(t *testing.T) {
	for k, x := range []struct {
		s  api.Scalar
		n  uint64
		is bool
	}{
		{both(0, 5, 2, 4), 4, true}, {both(0, 5, 2, 4), 2, false}, {both(0, 5, 2, 4), 1, false}, {both(0, 5, 2, 4), 5, false}, {both(0, 5, 2, 4), 0, false},
		{both(0, 7, 2, 6), 2, true}, {both(0, 7, 2, 6), 6, true}, {both(0, 7, 2, 6), 1, false}, {both(0, 7, 2, 6), 7, false}, {both(0, 7, 2, 6), 1<<32 + 3, false},
		{none, 0, true}, {none, 1, false}, {one, 1, true}, {one, 0, false}, {both(0, top, 0, top), top, true}, {both(0, top, 0, top), 0, true}, {both(0, top, 5, top), 4, false},
		{hollow, 3, false}, {hollow, 4, false}, {hollow, 10, false}, {hollow, 11, false},
		{both(0, 7, 0, 5), 3, true}, {both(0, 15, 0, 5), 3, false}, {both(4, 3, 0, 5), 4, false}, {both(0, 7, 5, 4), 4, false}, {both(0, 7, 5, 4), 5, false}, {both(1, 1, 0, 1), 1, false}, {both(1, 1, 0, 1), 0, false}, {both(0, 7, 0, top), 3, false},
	} {
		if is := scalar.Has(x.s, x.n); is != x.is {
			t.Errorf("row %d: Has(%v, %d): %v", k, x.s, x.n, is)
		}
	}
	for _, s := range bads() {
		for _, n := range []uint64{0, 1, 2, 4, 5, s.T.V, s.S.Lo, s.S.Hi, 1 << 63} {
			if scalar.Has(s, n) {
				t.Error(s, "may not be, and has", n)
			}
		}
	}
}

func TestP11_1_HasByTheChapter(t *testing.T) {
	for _, at := range bases {
		for _, s := range raw(at, 3) {
			for i := range uint64(8) {
				if n := at + i; scalar.Has(s, n) != (toldMay(s) && toldHas(s, n)) {
					t.Fatal(s, n)
				}
			}
		}
	}
	chance := rand.New(rand.NewSource(211))
	for range 20000 {
		s, n := anyScalar(chance), anyNumber(chance)
		if scalar.Has(s, n) != toldHas(s, n) {
			t.Fatal(s, n)
		}
		if n, is := anyHeld(chance, s); is && !scalar.Has(s, n) {
			t.Fatal(s, n)
		}
	}
}

func TestP11_1_InRows(t *testing.T) {
	all := both(0, top, 0, top)
	for k, x := range []struct {
		a, b api.Scalar
		is   bool
	}{
		{one, one, true}, {one, all, true}, {all, one, false}, {all, all, true}, {one, none, false},
		{both(4, 1, 4, 5), both(4, 3, 4, 7), true}, {both(4, 3, 4, 7), both(4, 1, 4, 5), false}, {both(4, 1, 4, 5), both(4, 3, 5, 7), false}, {both(4, 1, 4, 5), both(4, 3, 4, 6), true},
		{both(0, 5, 1, 4), both(0, 7, 1, 4), true}, {both(0, 7, 1, 4), both(0, 5, 1, 4), false}, // the spans are the same, the tnums are not
		{both(0, 7, 1, 5), both(0, 7, 1, 4), false}, {both(0, 7, 2, 4), both(0, 7, 1, 4), true}, // and the other way
		{both(0, 5, 2, 4), both(4, 0, 4, 4), false}, // they hold the same
		{hollow, both(0, 15, 1, 13), true}, {hollow, both(5, 0, 5, 5), false},
	} {
		if is := scalar.In(x.a, x.b); is != x.is {
			t.Errorf("row %d: In(%v, %v): %v", k, x.a, x.b, is)
		}
	}
	for _, s := range bads() {
		if scalar.In(s, all) || scalar.In(all, s) || scalar.In(s, s) || scalar.In(none, s) {
			t.Error(s, "may not be")
		}
	}
}

// toldIn: of scalars that may be, whether the tnum is in the tnum, bit by bit, and the span in the span.
func toldIn(a, b api.Scalar) bool {
	for i := range 64 {
		if b.T.M>>i&1 == 0 && (a.T.M>>i&1 == 1 || a.T.V>>i&1 != b.T.V>>i&1) {
			return false
		}
	}
	return a.S.Lo >= b.S.Lo && a.S.Hi <= b.S.Hi
}

func TestP11_1_InByTheChapter(t *testing.T) {
	littles(func(a, b api.Scalar) {
		if scalar.In(a, b) != toldIn(a, b) {
			t.Fatal(a, b)
		}
	})
	chance := rand.New(rand.NewSource(311))
	for range 20000 {
		a, b := anyPair(chance)
		if scalar.In(a, b) != toldIn(a, b) || scalar.In(b, a) != toldIn(b, a) {
			t.Fatal(a, b)
		}
		if c := badScalar(chance); scalar.In(a, c) || scalar.In(c, a) || scalar.Has(c, anyNumber(chance)) {
			t.Fatal(a, c)
		}
	}
}

func TestP11_2_Rows(t *testing.T) {
	for k, x := range []struct {
		a, b, join, meet api.Scalar
		ok               bool
	}{
		{both(4, 0, 4, 4), both(6, 0, 6, 6), both(4, 2, 4, 6), none, false},
		{both(3, 0, 3, 3), both(5, 0, 5, 5), both(1, 6, 3, 5), none, false},
		{none, both(0, top, 0, top), both(0, top, 0, top), none, true},
		{none, none, none, none, true},
		{one, none, both(0, 1, 0, 1), none, false},
		{both(0, 7, 0, 7), both(8, 7, 8, 15), both(0, 15, 0, 15), none, false},
		{both(0, 7, 1, 6), both(0, 7, 3, 7), both(0, 7, 1, 7), both(0, 7, 3, 6), true},
		{both(0, 7, 1, 6), both(0, 15, 5, 9), both(0, 15, 1, 9), both(4, 3, 5, 6), true}, // the tnum of what both have begins as 5 and 6 do
		{both(0, 7, 0, 4), both(4, 3, 4, 7), both(0, 7, 0, 7), both(4, 0, 4, 4), true},
		{both(0, 6, 0, 6), both(1, 6, 1, 7), both(0, 7, 0, 7), none, false}, // the tnums have nothing in common
		{both(0, 7, 0, 3), both(0, 7, 4, 7), none, none, false},             // they may not be
		{both(0, 3, 0, 3), both(4, 3, 4, 7), both(0, 7, 0, 7), none, false},
		{both(0, 5, 1, 4), both(0, 6, 2, 4), both(0, 7, 1, 4), both(0, 4, 2, 4), true}, // 0 or 4; 2 to 4: 4 alone is held, but the ends do not tell
		{both(0, 5, 1, 4), both(0, 6, 0, 2), none, none, false},
		{both(0, 5, 1, 4), both(0, 2, 0, 2), both(0, 7, 0, 4), none, false}, // 0; 1 to 2: nothing is left when these are settled
		{both(0, 2, 0, 2), both(0, 5, 1, 4), both(0, 7, 0, 4), none, false},
		{both(1, 2, 1, 3), both(1, 4, 1, 5), both(1, 6, 1, 5), one, true}, // the spans' Meet is more
		{hollow, hollow, hollow, hollow, true},
		{hollow, both(5, 0, 5, 5), both(1, 14, 4, 10), none, false},
		{both(0, 1<<32-1, 0, low32), both(1<<32, low32, 1<<32, 1<<33-1), both(0, 1<<33-1, 0, 1<<33-1), none, false},
		{none, both(top, 0, top, top), both(0, top, 0, top), none, false},
	} {
		join, e := scalar.Join(x.a, x.b)
		if !toldMay(x.a) || !toldMay(x.b) {
			refuses(t, "Join", join, e, errArg)
		} else if join != x.join || e != 0 {
			t.Errorf("row %d: Join(%v, %v): %v, %d, not %v", k, x.a, x.b, join, e, x.join)
		}
		if s, ok := scalar.Meet(x.a, x.b); s != x.meet || ok != x.ok {
			t.Errorf("row %d: Meet(%v, %v): %v, %v, not %v, %v", k, x.a, x.b, s, ok, x.meet, x.ok)
		}
	}
}

func TestP11_2_Wrong(t *testing.T) {
	for _, s := range bads() {
		for _, r := range append(bads(), none, one, both(0, top, 0, top), both(0, 7, 0, 7)) {
			for _, x := range [][2]api.Scalar{{s, r}, {r, s}} {
				join, e := scalar.Join(x[0], x[1])
				refuses(t, "Join", join, e, errArg)
				if meet, ok := scalar.Meet(x[0], x[1]); meet != none || ok {
					t.Errorf("Meet(%v, %v): %v, %v", x[0], x[1], meet, ok)
				}
			}
		}
	}
	chance := rand.New(rand.NewSource(112))
	for range 3000 {
		a, b := anyScalar(chance), badScalar(chance)
		for _, x := range [][2]api.Scalar{{a, b}, {b, a}, {b, b}} {
			join, e := scalar.Join(x[0], x[1])
			refuses(t, "Join", join, e, errArg)
			if meet, ok := scalar.Meet(x[0], x[1]); meet != none || ok {
				t.Errorf("Meet(%v, %v): %v, %v", x[0], x[1], meet, ok)
			}
		}
	}
}

// toldJoin: bits that are not the same in both are any, and settled.
func toldJoin(a, b api.Scalar) api.Scalar {
	free := a.T.M | b.T.M | (a.T.V ^ b.T.V)
	s, _ := toldSettle(api.Tnum{V: a.T.V &^ free, M: free}, api.Span{Lo: min(a.S.Lo, b.S.Lo), Hi: max(a.S.Hi, b.S.Hi)})
	return s
}

func joinsAndMeets(t *testing.T, a, b api.Scalar) {
	t.Helper()
	if s, e := scalar.Join(a, b); s != toldJoin(a, b) || e != 0 {
		t.Fatalf("Join(%v, %v): %v, %d, not %v", a, b, s, e, toldJoin(a, b))
	}
	want := toldSame(a, b)
	if s, ok := scalar.Meet(a, b); s != want.a || ok != want.ok {
		t.Fatalf("Meet(%v, %v): %v, %v, not %v", a, b, s, ok, want)
	}
}

func TestP11_2_ByTheChapter(t *testing.T) {
	littles(func(a, b api.Scalar) { joinsAndMeets(t, a, b) })
	chance := rand.New(rand.NewSource(212))
	for range 50000 {
		a, b := anyPair(chance)
		joinsAndMeets(t, a, b)
		joinsAndMeets(t, b, a)
	}
}
