package tnum_test

import (
	"math/rand"
	"testing"

	"stockade/api"
	"stockade/tnum"
)

func TestP9_3_Rows(t *testing.T) {
	type row struct{ a, b, want api.Tnum }
	for name, rows := range map[string][]row{
		"Add": {
			{api.Tnum{V: 1}, api.Tnum{M: 4}, api.Tnum{V: 1, M: 4}},
			{api.Tnum{V: 1}, api.Tnum{M: 3}, api.Tnum{M: 7}},
			{api.Tnum{V: 2}, api.Tnum{V: 3}, api.Tnum{V: 5}},
			{api.Tnum{M: 1}, api.Tnum{M: 1}, api.Tnum{M: 3}},
			{api.Tnum{V: top}, api.Tnum{V: 1}, api.Tnum{}},
			{api.Tnum{V: top}, api.Tnum{M: 1}, api.Tnum{M: top}},
			{api.Tnum{M: 1 << 63}, api.Tnum{M: 1 << 63}, api.Tnum{M: 1 << 63}},
			{api.Tnum{M: 1 << 63}, api.Tnum{V: 1 << 63}, api.Tnum{M: 1 << 63}},
			{api.Tnum{M: top}, api.Tnum{V: 1}, api.Tnum{M: top}},
		},
		"Sub": {
			{api.Tnum{M: 1}, api.Tnum{V: 1}, api.Tnum{M: top}},
			{api.Tnum{V: 1}, api.Tnum{M: 1}, api.Tnum{M: 1}},
			{api.Tnum{V: 3}, api.Tnum{V: 5}, api.Tnum{V: top - 1}},
			{api.Tnum{V: 8}, api.Tnum{M: 1}, api.Tnum{M: 15}},
			{api.Tnum{V: 8, M: 4}, api.Tnum{V: 4}, api.Tnum{M: 12}},
			{api.Tnum{}, api.Tnum{V: 1}, api.Tnum{V: top}},
			{api.Tnum{M: 6}, api.Tnum{M: 6}, api.Tnum{M: top - 1}},
		},
		"And": {
			{api.Tnum{V: 6}, api.Tnum{V: 3}, api.Tnum{V: 2}},
			{api.Tnum{M: top}, api.Tnum{V: 7}, api.Tnum{M: 7}},
			{api.Tnum{V: 4, M: 3}, api.Tnum{V: 6}, api.Tnum{V: 4, M: 2}},
			{api.Tnum{M: 6}, api.Tnum{M: 3}, api.Tnum{M: 2}},
			{api.Tnum{M: top}, api.Tnum{}, api.Tnum{}},
		},
		"Or": {
			{api.Tnum{V: 6}, api.Tnum{V: 3}, api.Tnum{V: 7}},
			{api.Tnum{M: top}, api.Tnum{V: 7}, api.Tnum{V: 7, M: top - 7}},
			{api.Tnum{V: 4, M: 3}, api.Tnum{V: 2}, api.Tnum{V: 6, M: 1}},
			{api.Tnum{M: 6}, api.Tnum{M: 3}, api.Tnum{M: 7}},
		},
		"Xor": {
			{api.Tnum{V: 6}, api.Tnum{V: 3}, api.Tnum{V: 5}},
			{api.Tnum{M: top}, api.Tnum{V: 7}, api.Tnum{M: top}},
			{api.Tnum{V: 4, M: 3}, api.Tnum{V: 6}, api.Tnum{M: 3}},
			{api.Tnum{V: 8, M: 2}, api.Tnum{V: 1, M: 2}, api.Tnum{V: 9, M: 2}},
		},
	} {
		for _, op := range twos() {
			for k, x := range rows {
				if got, e := op.do(x.a, x.b); op.name == name && (got != x.want || e != 0) {
					t.Errorf("%s, row %d: %v, %d, not %v", name, k, got, e, x.want)
				}
			}
		}
	}
}

// bestOf: the best one of what an operation makes of what a and b hold.
func bestOf(op two, a, b api.Tnum) api.Tnum {
	x, y := held(a), held(b)
	l := make([]uint64, 0, len(x)*len(y))
	for _, m := range x {
		for _, n := range y {
			l = append(l, op.of(m, n))
		}
	}
	return best(l)
}

func TestP9_3_Best(t *testing.T) {
	for _, op := range twos() {
		littles(func(a, b api.Tnum) {
			if x, e := op.do(a, b); x != bestOf(op, a, b) || e != 0 {
				t.Fatal(op.name, a, b, x, e)
			}
			if x, e := op.do(b, a); x != bestOf(op, b, a) || e != 0 {
				t.Fatal(op.name, b, a, x, e)
			}
		})
		chance := rand.New(rand.NewSource(93))
		for range 10000 {
			a, b := fewTnum(chance), fewTnum(chance)
			if x, e := op.do(a, b); x != bestOf(op, a, b) || e != 0 {
				t.Fatal(op.name, a, b, x, e)
			}
		}
	}
}

func TestP9_3_BitByBit(t *testing.T) {
	for _, op := range twos() {
		chance := rand.New(rand.NewSource(193))
		for range 5000 {
			a, b := anyTnum(chance), anyTnum(chance)
			if x, e := op.do(a, b); x != op.told(a, b) || e != 0 {
				t.Fatal(op.name, written(a), written(b), written(x), e)
			}
		}
	}
}

func TestP9_3_Wrong(t *testing.T) {
	chance := rand.New(rand.NewSource(293))
	for _, op := range append(twos(), two{name: "Mul", do: tnum.Mul}) {
		for range 1000 {
			a, bad := anyTnum(chance), badTnum(chance)
			for _, l := range [][2]api.Tnum{{a, bad}, {bad, a}, {bad, bad}, {bad, badTnum(chance)}, {{}, bad}, {bad, {}}} {
				x, e := op.do(l[0], l[1])
				refuses(t, op.name, x, e)
			}
		}
	}
}

func TestP9_4_Rows(t *testing.T) {
	for k, x := range []struct{ a, b, want api.Tnum }{
		{api.Tnum{V: 3}, api.Tnum{M: 2}, api.Tnum{M: 6}},
		{api.Tnum{V: 3}, api.Tnum{V: 5}, api.Tnum{V: 15}},
		{api.Tnum{M: 2}, api.Tnum{V: 3}, api.Tnum{M: 6}},
		{api.Tnum{V: 2}, api.Tnum{V: 1, M: 4}, api.Tnum{V: 2, M: 8}},
		{api.Tnum{V: 1, M: 2}, api.Tnum{V: 3}, api.Tnum{V: 1, M: 14}},
		{api.Tnum{V: 3}, api.Tnum{V: 1, M: 2}, api.Tnum{V: 1, M: 14}}, // 3 and 9: not the best answer
		{api.Tnum{V: 1 << 63}, api.Tnum{V: 2}, api.Tnum{}},
		{api.Tnum{V: 1 << 63}, api.Tnum{M: 3}, api.Tnum{M: 1 << 63}},
		{api.Tnum{M: top}, api.Tnum{}, api.Tnum{}},
		{api.Tnum{}, api.Tnum{M: top}, api.Tnum{}},
		{api.Tnum{M: top}, api.Tnum{V: 1}, api.Tnum{M: top}},
		{api.Tnum{M: top}, api.Tnum{V: 8}, api.Tnum{M: top - 7}},
		{api.Tnum{M: top}, api.Tnum{M: top}, api.Tnum{M: top}},
		{api.Tnum{V: top}, api.Tnum{V: top}, api.Tnum{V: 1}},
	} {
		if got, e := tnum.Mul(x.a, x.b); got != x.want || e != 0 {
			t.Errorf("row %d: %v, %d, not %v", k, got, e, x.want)
		}
	}
}

func TestP9_4_ByTheChapter(t *testing.T) {
	chance := rand.New(rand.NewSource(94))
	for range 1500 {
		a, b := anyTnum(chance), anyTnum(chance)
		if x, e := tnum.Mul(a, b); x != toldMul(a, b) || e != 0 {
			t.Fatal(written(a), written(b), written(x), e)
		}
		n, m := anyNumber(chance), anyNumber(chance)
		if x, e := tnum.Mul(tnum.Of(n), tnum.Of(m)); x != tnum.Of(n*m) || e != 0 {
			t.Fatal(n, m, x, e)
		}
	}
	for _, a := range little(0, 0) {
		for k, b := range little(59, top) {
			if x, e := tnum.Mul(a, b); k%9 == 0 && (x != toldMul(a, b) || e != 0) {
				t.Fatal(written(a), written(b), written(x), e)
			}
		}
	}
}
