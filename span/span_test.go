package span_test

import (
	"math/rand"
	"slices"
	"testing"

	"stockade/api"
	"stockade/span"
)

func TestP10_1_Rows(t *testing.T) {
	for k, x := range []struct {
		s   api.Span
		may bool
	}{
		{of(0, 0), true}, {of(3, 3), true}, {of(3, 4), true}, {of(4, 3), false}, {of(1, 0), false}, {of(0, top), true}, {of(top, top), true},
		{of(top, 0), false}, {of(top, top-1), false}, {of(top-1, top), true}, {of(1<<63, 1<<63-1), false}, {of(1<<63-1, 1<<63), true}, {of(1<<32, 5), false}, {of(5, 1<<32), true},
	} {
		if may := span.May(x.s); may != x.may {
			t.Errorf("row %d: May(%v): %v", k, x.s, may)
		}
	}
	for k, x := range []struct {
		s  api.Span
		n  uint64
		is bool
	}{
		{of(3, 5), 2, false}, {of(3, 5), 3, true}, {of(3, 5), 4, true}, {of(3, 5), 5, true}, {of(3, 5), 6, false},
		{of(5, 3), 2, false}, {of(5, 3), 3, false}, {of(5, 3), 4, false}, {of(5, 3), 5, false}, {of(5, 3), 6, false},
		{of(0, 0), 0, true}, {of(0, 0), 1, false}, {of(0, top), 0, true}, {of(0, top), top, true}, {of(0, top), 1 << 63, true},
		{of(1<<63-1, 1<<63), 1 << 63, true}, {of(1<<63-1, 1<<63), 0, false}, {of(top, 0), 0, false}, {of(top, 0), top, false}, {of(top, top), top, true}, {of(3, 5), 1<<32 + 4, false},
	} {
		if is := span.Has(x.s, x.n); is != x.is {
			t.Errorf("row %d: Has(%v, %d): %v", k, x.s, x.n, is)
		}
	}
	if s := span.All(); s != of(0, top) {
		t.Error("All is ", s)
	}
	for _, n := range edges {
		if s := span.Of(n); s != of(n, n) {
			t.Error("Of", n, "is", s)
		}
	}
}

func TestP10_1_InRows(t *testing.T) {
	for k, x := range []struct {
		a, b api.Span
		is   bool
	}{
		{of(3, 5), of(3, 5), true}, {of(3, 4), of(3, 5), true}, {of(4, 5), of(3, 5), true}, {of(4, 4), of(3, 5), true},
		{of(2, 5), of(3, 5), false}, {of(3, 6), of(3, 5), false}, {of(2, 6), of(3, 5), false}, {of(0, 2), of(3, 5), false}, {of(6, 9), of(3, 5), false}, {of(2, 3), of(3, 5), false}, {of(5, 6), of(3, 5), false},
		{of(3, 5), of(0, top), true}, {of(0, top), of(3, 5), false}, {of(0, top), of(0, top), true}, {of(0, top), of(1, top), false}, {of(0, top), of(0, top-1), false},
		{of(5, 3), of(0, top), false}, {of(5, 4), of(3, 6), false}, {of(5, 3), of(5, 3), false}, {of(4, 4), of(5, 3), false}, {of(3, 5), of(5, 3), false}, {of(0, 0), of(1, 0), false}, {of(1, 0), of(0, 0), false},
	} {
		if is := span.In(x.a, x.b); is != x.is {
			t.Errorf("row %d: In(%v, %v): %v", k, x.a, x.b, is)
		}
	}
}

// all: all spans of the numbers from at on, with those that may not be.
func all(at uint64, count int) []api.Span {
	var l []api.Span
	for i := range count {
		for j := range count {
			l = append(l, of(at+uint64(i), at+uint64(j)))
		}
	}
	return l
}

// toldHeld: what s holds of the numbers from at on.
func toldHeld(s api.Span, at uint64, count int) []uint64 {
	var l []uint64
	for i := range count {
		if n := at + uint64(i); s.Lo <= n && n <= s.Hi {
			l = append(l, n)
		}
	}
	return l
}

var bases = []uint64{0, 60, 1<<32 - 3, 1<<63 - 3, top - 6}

func TestP10_1_ByTheChapter(t *testing.T) {
	for _, at := range bases {
		for _, a := range all(at, 7) {
			x := toldHeld(a, at, 7)
			if span.May(a) != (len(x) > 0) {
				t.Fatal(a, span.May(a))
			}
			for i := range 7 {
				if n := at + uint64(i); span.Has(a, n) != slices.Contains(x, n) {
					t.Fatal(a, n)
				}
			}
			for _, b := range all(at, 7) {
				y := toldHeld(b, at, 7)
				is := len(x) > 0 && len(y) > 0
				for _, n := range x {
					is = is && slices.Contains(y, n)
				}
				if span.In(a, b) != is {
					t.Fatal(a, b, span.In(a, b))
				}
			}
		}
	}
}

func TestP10_2_Rows(t *testing.T) {
	for k, x := range []struct {
		a, b, join, meet api.Span
		is               bool
	}{
		{of(1, 3), of(4, 5), of(1, 5), of(0, 0), false},
		{of(4, 5), of(1, 3), of(1, 5), of(0, 0), false},
		{of(1, 3), of(3, 5), of(1, 5), of(3, 3), true},
		{of(3, 5), of(1, 3), of(1, 5), of(3, 3), true},
		{of(1, 9), of(3, 5), of(1, 9), of(3, 5), true},
		{of(3, 5), of(1, 9), of(1, 9), of(3, 5), true},
		{of(1, 5), of(3, 9), of(1, 9), of(3, 5), true},
		{of(0, 0), of(7, 8), of(0, 8), of(0, 0), false},
		{of(0, 0), of(0, 8), of(0, 8), of(0, 0), true},
		{of(0, 0), of(0, 0), of(0, 0), of(0, 0), true},
		{of(0, 0), of(top, top), of(0, top), of(0, 0), false},
		{of(0, top), of(7, 8), of(0, top), of(7, 8), true},
		{of(3, 1), of(7, 8), of(7, 8), of(0, 0), false},
		{of(7, 8), of(3, 1), of(7, 8), of(0, 0), false},
		{of(9, 1), of(3, 5), of(3, 5), of(0, 0), false},
		{of(3, 5), of(9, 1), of(3, 5), of(0, 0), false},
		{of(0, top), of(5, 4), of(0, top), of(0, 0), false},
		{of(5, 4), of(0, top), of(0, top), of(0, 0), false},
		{of(3, 1), of(8, 7), of(0, 0), of(0, 0), false},
		{of(3, 1), of(3, 1), of(0, 0), of(0, 0), false},
		{of(8, 1), of(9, 2), of(0, 0), of(0, 0), false},
	} {
		if s := span.Join(x.a, x.b); s != x.join {
			t.Errorf("row %d: Join(%v, %v): %v, not %v", k, x.a, x.b, s, x.join)
		}
		if s, is := span.Meet(x.a, x.b); s != x.meet || is != x.is {
			t.Errorf("row %d: Meet(%v, %v): %v, %v, not %v, %v", k, x.a, x.b, s, is, x.meet, x.is)
		}
	}
}

func TestP10_2_ByTheChapter(t *testing.T) {
	for _, at := range bases {
		for _, a := range all(at, 7) {
			for _, b := range all(at, 7) {
				x, y := toldHeld(a, at, 7), toldHeld(b, at, 7)
				join, meet := of(0, 0), of(0, 0)
				if l := append(slices.Clone(x), y...); len(l) > 0 {
					join = ends(l)
				}
				both := slices.DeleteFunc(x, func(n uint64) bool { return !slices.Contains(y, n) })
				if len(both) > 0 {
					meet = ends(both)
				}
				if s := span.Join(a, b); s != join {
					t.Fatal("Join", a, b, s)
				}
				if s, is := span.Meet(a, b); s != meet || is != (len(both) > 0) {
					t.Fatal("Meet", a, b, s, is)
				}
			}
		}
	}
}

func TestP10_3_Rows(t *testing.T) {
	for k, x := range []struct {
		s    api.Span
		bits int
		want api.Span
	}{
		{of(5, 9), 64, of(5, 9)}, {of(5, 9), 4, of(5, 9)}, {of(5, 9), 3, of(0, 7)}, {of(9, 11), 3, of(1, 3)}, {of(9, 11), 1, of(0, 1)}, {of(9, 9), 1, of(1, 1)},
		{of(8, 15), 3, of(0, 7)}, {of(7, 8), 3, of(0, 7)}, {of(8, 16), 3, of(0, 7)}, {of(8, 14), 3, of(0, 6)}, {of(9, 17), 3, of(0, 7)}, {of(9, 16), 3, of(0, 7)}, {of(9, 18), 3, of(0, 7)},
		{of(5, 9), 0, of(0, 0)}, {of(5, 5), 0, of(0, 0)}, {of(5, 9), -1, of(0, 0)}, {of(5, 5), -64, of(0, 0)}, {of(0, top), -1 << 63, of(0, 0)},
		{of(5, 9), 65, of(5, 9)}, {of(0, top), 99, of(0, top)}, {of(1, top), 1<<63 - 1, of(1, top)}, {of(1, top), 128, of(1, top)}, {of(1, top), 64, of(1, top)}, {of(top, top), 64, of(top, top)},
		{of(1<<32-1, 1<<32), 32, of(0, low32)}, {of(1<<32, 1<<32+5), 32, of(0, 5)}, {of(0, 1<<32-1), 32, of(0, low32)}, {of(1, 1<<33), 32, of(0, low32)}, {of(5, 1<<32+7), 32, of(0, low32)}, {of(top-7, top), 32, of(low32-7, low32)},
		{of(1<<63-1, 1<<63), 63, of(0, 1<<63-1)}, {of(1<<63, 1<<63+9), 63, of(0, 9)}, {of(1<<63+3, top), 63, of(3, 1<<63-1)},
		{of(9, 5), 32, of(0, 0)}, {of(9, 5), 64, of(0, 0)}, {of(9, 5), 0, of(0, 0)}, {of(9, 5), 2, of(0, 0)}, {of(1<<32+1, 1<<32), 32, of(0, 0)}, {of(1<<32+1, 9), 32, of(0, 0)}, {of(9, 5), 99, of(0, 0)}, {of(9, 5), -9, of(0, 0)},
	} {
		if s := span.Cut(x.s, x.bits); s != x.want {
			t.Errorf("row %d: Cut(%v, %d): %v, not %v", k, x.s, x.bits, s, x.want)
		}
	}
}

func TestP10_3_All(t *testing.T) {
	for _, at := range []uint64{0, 1<<32 - 20, 1<<63 - 20, top - 39} {
		for _, a := range window(at, 40) {
			for _, bits := range []int{0, 1, 2, 3, 4, 5, 6, 31, 32, 33, 62, 63, 64} {
				var l []uint64
				for _, n := range held(a) {
					l = append(l, n&most(bits))
				}
				if s := span.Cut(a, bits); s != ends(l) {
					t.Fatal(a, bits, s, ends(l))
				}
			}
		}
	}
}

func TestP10_3_ByTheChapter(t *testing.T) {
	chance := rand.New(rand.NewSource(103))
	for range 3000 {
		a := anySpan(chance)
		for bits := range 65 {
			if s := span.Cut(a, bits); s != toldCut(a, bits) {
				t.Fatal(a, bits, s, toldCut(a, bits))
			}
		}
		over := 64 + int(chance.Uint32())
		if s, r := span.Cut(a, over), span.Cut(a, 64-over); s != a || r != of(0, 0) {
			t.Fatal(a, over, s, r)
		}
		if s := span.Cut(badSpan(chance), chance.Intn(70)-2); s != of(0, 0) {
			t.Fatal(s)
		}
	}
}
