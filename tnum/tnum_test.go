package tnum_test

import (
	"math/rand"
	"slices"
	"strings"
	"testing"

	"stockade/api"
	"stockade/tnum"
)

func TestP9_1_MayOfAllFree(t *testing.T) {
	for k, x := range []struct {
		t    api.Tnum
		may  bool
		free int
	}{
		{api.Tnum{}, true, 0},
		{api.Tnum{V: 5}, true, 0},
		{api.Tnum{M: 5}, true, 2},
		{api.Tnum{V: 4, M: 2}, true, 1},
		{api.Tnum{V: 1, M: 1}, false, -1},
		{api.Tnum{V: 1 << 63, M: 1 << 63}, false, -1},
		{api.Tnum{V: 1 << 63, M: 1<<63 - 1}, true, 63},
		{api.Tnum{V: top, M: 1 << 32}, false, -1},
		{api.Tnum{V: 1 << 32, M: top}, false, -1},
		{api.Tnum{V: top}, true, 0},
		{api.Tnum{M: top}, true, 64},
		{api.Tnum{V: top, M: top}, false, -1},
	} {
		if may, free := tnum.May(x.t), tnum.Free(x.t); may != x.may || free != x.free {
			t.Errorf("row %d: %v: %v, %d, not %v, %d", k, x.t, may, free, x.may, x.free)
		}
	}
	if l := tnum.All(); l != (api.Tnum{M: top}) {
		t.Error("All is ", l)
	}
	for _, n := range edges {
		if l := tnum.Of(n); l != (api.Tnum{V: n}) {
			t.Error("Of", n, "is", l)
		}
	}
}

func TestP9_1_HasInRows(t *testing.T) {
	four := api.Tnum{V: 4, M: 2} // 4 and 6
	bad := api.Tnum{V: 1, M: 1}
	for k, x := range []struct {
		t  api.Tnum
		n  uint64
		is bool
	}{
		{four, 4, true}, {four, 6, true}, {four, 5, false}, {four, 7, false}, {four, 0, false}, {four, 2, false}, {four, 1<<63 + 4, false},
		{api.Tnum{}, 0, true}, {api.Tnum{}, 1, false}, {api.Tnum{M: top}, 0, true}, {api.Tnum{M: top}, top, true},
		{api.Tnum{V: 1 << 63}, 1 << 63, true}, {api.Tnum{V: 1 << 63}, 0, false},
		{bad, 1, false}, {bad, 0, false}, {api.Tnum{V: top, M: top}, top, false},
	} {
		if is := tnum.Has(x.t, x.n); is != x.is {
			t.Errorf("row %d: Has(%v, %d): %v", k, x.t, x.n, is)
		}
	}
	for k, x := range []struct {
		a, b api.Tnum
		is   bool
	}{
		{four, four, true}, {api.Tnum{V: 4}, four, true}, {api.Tnum{V: 6}, four, true}, {four, api.Tnum{V: 4}, false}, {api.Tnum{V: 5}, four, false},
		{four, api.Tnum{M: 6}, true}, {api.Tnum{M: 6}, four, false}, {four, api.Tnum{M: 2}, false}, {api.Tnum{M: 2}, four, false},
		{four, api.Tnum{M: top}, true}, {api.Tnum{M: top}, four, false}, {api.Tnum{M: top}, api.Tnum{M: top}, true},
		{bad, bad, false}, {bad, api.Tnum{M: top}, false}, {api.Tnum{V: 1}, bad, false}, {api.Tnum{}, bad, false}, {bad, api.Tnum{V: 1}, false},
	} {
		if is := tnum.In(x.a, x.b); is != x.is {
			t.Errorf("row %d: In(%v, %v): %v", k, x.a, x.b, is)
		}
	}
}

func toldHas(t api.Tnum, n uint64) bool {
	s := written(t)
	for i := range 64 {
		if !slices.Contains(choices(s[i]), int(n>>i&1)) {
			return false
		}
	}
	return true
}

func toldIn(a, b api.Tnum) bool {
	s, l := written(a), written(b)
	is := !strings.Contains(s+l, "!")
	for i := range 64 {
		is = is && (l[i] == '?' || l[i] == s[i])
	}
	return is
}

func TestP9_1_ByTheChapter(t *testing.T) {
	chance := rand.New(rand.NewSource(91))
	for range 20000 {
		a := []api.Tnum{anyTnum(chance), anyTnum(chance), badTnum(chance)}[chance.Intn(3)]
		s := written(a)
		may, free := !strings.Contains(s, "!"), strings.Count(s, "?")
		if !may {
			free = -1
		}
		if tnum.May(a) != may || tnum.Free(a) != free {
			t.Fatalf("%s: %v, %d, not %v, %d", s, tnum.May(a), tnum.Free(a), may, free)
		}
		for _, n := range []uint64{anyNumber(chance), anyHeld(chance, a), a.V, a.V | a.M, a.V ^ 1<<chance.Intn(64)} {
			if is := tnum.Has(a, n); is != toldHas(a, n) {
				t.Fatalf("%s: Has of %d: %v", s, n, is)
			}
		}
		wider := api.Tnum{V: a.V, M: a.M | anyNumber(chance)}
		wider.V &^= wider.M
		for _, b := range []api.Tnum{anyTnum(chance), badTnum(chance), wider, {V: wider.V ^ 1<<chance.Intn(64), M: wider.M}, {V: a.V}, {V: anyHeld(chance, a)}, {M: top}} {
			if tnum.In(a, b) != toldIn(a, b) || tnum.In(b, a) != toldIn(b, a) {
				t.Fatalf("%s, %s: In: %v, %v", s, written(b), tnum.In(a, b), tnum.In(b, a))
			}
		}
	}
}

func TestP9_1_InIsOfWhatIsHeld(t *testing.T) {
	little := append(little(0, 0), little(59, top)[:81]...)
	for _, a := range little {
		for _, b := range little {
			is := true
			for _, n := range held(a) {
				is = is && slices.Contains(held(b), n)
			}
			if tnum.In(a, b) != is {
				t.Fatal(a, b, is)
			}
		}
	}
}

func TestP9_2_JoinMeetRows(t *testing.T) {
	for k, x := range []struct{ a, b, join, meet api.Tnum }{
		{api.Tnum{V: 4}, api.Tnum{V: 4}, api.Tnum{V: 4}, api.Tnum{V: 4}},
		{api.Tnum{V: 4, M: 2}, api.Tnum{M: top}, api.Tnum{M: top}, api.Tnum{V: 4, M: 2}},
		{api.Tnum{V: 4, M: 2}, api.Tnum{V: 2, M: 4}, api.Tnum{M: 6}, api.Tnum{V: 6}},
		{api.Tnum{V: 8, M: 3}, api.Tnum{V: 8, M: 6}, api.Tnum{V: 8, M: 7}, api.Tnum{V: 8, M: 2}},
		{api.Tnum{V: 1 << 63, M: 1}, api.Tnum{V: 1, M: 1 << 63}, api.Tnum{M: 1<<63 + 1}, api.Tnum{V: 1<<63 + 1}},
		{api.Tnum{M: 5}, api.Tnum{}, api.Tnum{M: 5}, api.Tnum{}},
	} {
		for _, l := range [][2]api.Tnum{{x.a, x.b}, {x.b, x.a}} {
			join, e := tnum.Join(l[0], l[1])
			meet, is := tnum.Meet(l[0], l[1])
			if join != x.join || e != 0 || meet != x.meet || !is {
				t.Errorf("row %d: %v: %v, %d, %v, %v", k, l, join, e, meet, is)
			}
		}
	}
	for _, l := range [][2]api.Tnum{{{V: 4}, {V: 6}}, {{V: 4, M: 2}, {V: 5}}, {{}, {V: 1 << 63}}, {{V: 1 << 63, M: 7}, {M: 7}}, {{V: 1, M: 2}, {V: 2, M: 4}}} {
		for range 2 {
			if meet, is := tnum.Meet(l[0], l[1]); is || meet != (api.Tnum{}) {
				t.Errorf("Meet of %v: %v, %v", l, meet, is)
			}
			l[0], l[1] = l[1], l[0]
		}
	}
	if join, e := tnum.Join(tnum.Of(4), tnum.Of(6)); join != (api.Tnum{V: 4, M: 2}) || e != 0 {
		t.Error(join, e)
	}
}

// toldMeet: false where a bit is 0 in one and 1 in the other.
func toldMeet(a, b api.Tnum) (api.Tnum, bool) {
	s, l, out := written(a), written(b), ""
	for i := range 64 {
		switch {
		case s[i] == '?' || s[i] == l[i]:
			out += l[i : i+1]
		case l[i] == '?':
			out += s[i : i+1]
		default:
			return api.Tnum{}, false
		}
	}
	return read(out), true
}

func TestP9_2_JoinMeetByWhatIsHeld(t *testing.T) {
	littles(func(a, b api.Tnum) {
		if join, e := tnum.Join(a, b); join != best(append(held(a), held(b)...)) || e != 0 {
			t.Fatal(a, b, join, e)
		}
		x, y := held(a), held(b)
		slices.Sort(y)
		x = slices.DeleteFunc(x, func(n uint64) bool { _, is := slices.BinarySearch(y, n); return !is })
		meet, is := tnum.Meet(a, b)
		if is != (len(x) > 0) || !is && meet != (api.Tnum{}) {
			t.Fatal(a, b, meet, is, x)
		}
		if z := held(meet); is && !slices.Equal(slices.Sorted(slices.Values(z)), slices.Sorted(slices.Values(x))) {
			t.Fatal(a, b, meet, x)
		}
	})
}

func TestP9_2_JoinMeetByTheChapter(t *testing.T) {
	chance := rand.New(rand.NewSource(92))
	met := 0
	for range 20000 {
		a, b := anyTnum(chance), anyTnum(chance)
		if chance.Intn(2) == 0 {
			free := b.M | anyNumber(chance) // near a, so that a number may be held by both
			b = api.Tnum{V: a.V &^ free, M: free}
		}
		var join string
		s, l := written(a), written(b)
		for i := range 64 {
			if s[i] == l[i] {
				join += s[i : i+1]
			} else {
				join += "?"
			}
		}
		if x, e := tnum.Join(a, b); x != read(join) || e != 0 {
			t.Fatal(s, l, written(x), e)
		}
		x, is := tnum.Meet(a, b)
		if want, told := toldMeet(a, b); x != want || is != told {
			t.Fatal(s, l, written(x), is)
		}
		if is {
			met++
		}
	}
	if met < 5000 || met > 19000 {
		t.Error("too few of one sort: ", met)
	}
}

func TestP9_2_Wrong(t *testing.T) {
	chance := rand.New(rand.NewSource(192))
	for range 2000 {
		a, bad := anyTnum(chance), badTnum(chance)
		for _, l := range [][2]api.Tnum{{a, bad}, {bad, a}, {bad, bad}, {bad, badTnum(chance)}, {{M: top}, bad}, {bad, {M: top}}, {bad, {V: bad.V}}, {{V: bad.V}, bad}} {
			join, e := tnum.Join(l[0], l[1])
			refuses(t, "Join", join, e)
			if meet, is := tnum.Meet(l[0], l[1]); is || meet != (api.Tnum{}) {
				t.Fatal(l, meet, is)
			}
		}
	}
}

func TestP9_2_RangeRows(t *testing.T) {
	for k, x := range []struct {
		lo, hi uint64
		want   api.Tnum
	}{
		{0, 0, api.Tnum{}},
		{4, 7, api.Tnum{V: 4, M: 3}},
		{3, 4, api.Tnum{M: 7}},
		{4, 6, api.Tnum{V: 4, M: 3}},
		{5, 6, api.Tnum{V: 4, M: 3}},
		{6, 7, api.Tnum{V: 6, M: 1}},
		{0, 1, api.Tnum{M: 1}},
		{0, top, api.Tnum{M: top}},
		{1, top - 1, api.Tnum{M: top}},
		{top, top, api.Tnum{V: top}},
		{top - 1, top, api.Tnum{V: top - 1, M: 1}},
		{1<<63 - 1, 1 << 63, api.Tnum{M: top}},
		{1 << 63, top, api.Tnum{V: 1 << 63, M: 1<<63 - 1}},
		{1<<32 - 1, 1 << 32, api.Tnum{M: 1<<33 - 1}},
		{1 << 32, 1<<33 - 1, api.Tnum{V: 1 << 32, M: 1<<32 - 1}},
	} {
		if r, e := tnum.Range(x.lo, x.hi); r != x.want || e != 0 {
			t.Errorf("row %d: %v, %d, not %v", k, r, e, x.want)
		}
	}
}

func TestP9_2_RangeIsTheBest(t *testing.T) {
	for _, from := range []uint64{0, 1<<31 - 20, 1<<32 - 20, 1<<63 - 20, top - 39} {
		for i := range uint64(40) {
			l := []uint64{}
			for j := i; j < 40; j++ {
				l = append(l, from+j)
				if r, e := tnum.Range(from+i, from+j); r != best(l) || e != 0 {
					t.Fatal(from, i, j, r, e)
				}
				if j > i {
					r, e := tnum.Range(from+j, from+i)
					refuses(t, "Range", r, e)
				}
			}
		}
	}
}

func TestP9_2_RangeByTheChapter(t *testing.T) {
	chance := rand.New(rand.NewSource(292))
	for range 20000 {
		lo, hi := anyNumber(chance), anyNumber(chance)
		if lo > hi {
			r, e := tnum.Range(lo, hi)
			refuses(t, "Range", r, e)
			lo, hi = hi, lo
		}
		r, e := tnum.Range(lo, hi)
		var want string
		s, l := written(tnum.Of(lo)), written(tnum.Of(hi))
		for i := range 64 {
			if s[i:] == l[i:] {
				want += s[i : i+1]
			} else {
				want += "?" // from here up there is a bit at which they differ: between them this one turns
			}
		}
		if r != read(want) || e != 0 {
			t.Fatal(lo, hi, r, e)
		}
	}
}
