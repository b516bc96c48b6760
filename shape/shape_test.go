package shape_test

import (
	"math"
	"math/rand"
	"slices"
	"testing"

	"stockade/api"
	"stockade/shape"
)

// one is an image, and what is told of it.
type one struct {
	img  api.Image
	at   int
	want api.Errno
}

func hold(t *testing.T, l []one) {
	t.Helper()
	for k, x := range l {
		if at, e := shape.Check(x.img); at != x.at || e != x.want {
			t.Errorf("row %d: %d, %d, not %d, %d: %+v", k, at, e, x.at, x.want, x.img)
		}
	}
}

func TestP4_1_Right(t *testing.T) {
	hold(t, []one{
		{plain(exit), 0, api.OK},
		{plain(leap(-1)), 0, api.OK},
		{plain(wide, api.Insn{}, exit), 0, api.OK},
		{plain(wide, api.Insn{Imm: -1}, exit), 0, api.OK},
		{plain(leap(0), wide, api.Insn{}, exit), 0, api.OK},
		{plain(leap(2), wide, api.Insn{}, exit), 0, api.OK},
		{plain(jump(-1), exit), 0, api.OK},
		{plain(jump(0), exit), 0, api.OK},
		{plain(mov, exit, leap(-3)), 0, api.OK},
		{plain(call(1), call(2), call(3), call(5), call(7), exit), 0, api.OK},
		{mapped(1, ref, api.Insn{}, exit), 0, api.OK},
		{mapped(4, api.Insn{Op: 0x18, Src: 1, Imm: 3}, api.Insn{}, exit), 0, api.OK},
		{mapped(4, exit), 0, api.OK},
		{api.Image{Maps: []api.Map{}, Code: []api.Insn{exit}}, 0, api.OK},
	})
}

func TestP4_1_ShortAndLong(t *testing.T) {
	full := append(slices.Repeat([]api.Insn{mov}, 511), exit)
	over := append(slices.Repeat([]api.Insn{mov}, 512), exit)
	broad := append(slices.Repeat([]api.Insn{wide, {}}, 256), exit) // 257 instructions, 513 places
	hold(t, []one{
		{api.Image{}, 0, api.ErrShort},
		{api.Image{Code: []api.Insn{}}, 0, api.ErrShort},
		{mapped(5), 0, api.ErrShort},
		{api.Image{Maps: []api.Map{good, {}}}, 0, api.ErrShort},
		{plain(full...), 0, api.OK},
		{plain(over...), 0, api.ErrLong},
		{plain(broad...), 0, api.ErrLong},
		{plain(broad[2:]...), 0, api.OK},
		{plain(make([]api.Insn, 513)...), 0, api.ErrLong},
		{plain(make([]api.Insn, 1<<16)...), 0, api.ErrLong},
		{mapped(4, full...), 0, api.OK},
		{mapped(5, exit), 0, api.ErrLong},
		{mapped(5, api.Insn{}), 0, api.ErrLong},
		{mapped(1000, exit), 0, api.ErrLong},
		{api.Image{Maps: []api.Map{good, {}, good, good, good}, Code: full}, 0, api.ErrLong},
		{api.Image{Maps: []api.Map{good, {}}, Code: over}, 0, api.ErrLong},
	})
}

func TestP4_1_Maps(t *testing.T) {
	edge := []int{math.MinInt, -1, 0, 1, 2, 3, 4, 5, 8, 15, 16, 17, 63, 64, 65, 256 + 1, 1<<32 + 4, math.MaxInt}
	each := func(f func(m api.Map)) {
		for _, a := range edge {
			for _, b := range edge {
				for _, c := range edge {
					for _, d := range edge {
						f(api.Map{Kind: a, Key: b, Value: c, Cap: d})
					}
				}
			}
		}
	}
	count := 0
	each(func(m api.Map) {
		want := api.OK
		if mayNot(m) {
			want = api.ErrMap
		} else {
			count++
		}
		if at, e := shape.Check(api.Image{Maps: []api.Map{m}, Code: []api.Insn{exit}}); at != 0 || e != want {
			t.Fatalf("%+v: %d, %d, not %d", m, at, e, want)
		}
	})
	if count != (1+8+8)*11*11 { // of the edges 11 are from 1 to 64, 8 of these to 16
		t.Error(count)
	}
}

func TestP4_1_WhichMap(t *testing.T) {
	bad := api.Map{Kind: 9}
	hold(t, []one{
		{api.Image{Maps: []api.Map{bad}, Code: []api.Insn{exit}}, 0, api.ErrMap},
		{api.Image{Maps: []api.Map{good, bad}, Code: []api.Insn{exit}}, 1, api.ErrMap},
		{api.Image{Maps: []api.Map{good, good, good, {}}, Code: []api.Insn{exit}}, 3, api.ErrMap},
		{api.Image{Maps: []api.Map{good, good, bad, bad}, Code: []api.Insn{exit}}, 2, api.ErrMap},
		// ahead of all that is wrong with instructions
		{api.Image{Maps: []api.Map{good, bad}, Code: []api.Insn{{}}}, 1, api.ErrMap},
		{api.Image{Maps: []api.Map{good, bad}, Code: []api.Insn{leap(9), mov}}, 1, api.ErrMap},
		{api.Image{Maps: []api.Map{bad}, Code: []api.Insn{exit, {Op: 0x18, Src: 1, Imm: 7}, {}, exit}}, 0, api.ErrMap},
	})
}

func TestP4_1_Instructions(t *testing.T) {
	hold(t, []one{
		{plain(api.Insn{}, exit), 0, api.ErrOp},
		{plain(mov, api.Insn{Op: 0x8f}, exit), 1, api.ErrOp},
		{plain(mov, api.Insn{Op: 0xb7, Dst: 10}, exit), 1, api.ErrReg},
		{plain(exit, exit, api.Insn{Op: 0x95, Imm: 1}), 2, api.ErrZero},
		{plain(api.Insn{Op: 0x18, Src: 2}, api.Insn{}, exit), 0, api.ErrOp},
		{plain(api.Insn{Op: 0x18, Dst: 10}, api.Insn{}, exit), 0, api.ErrReg},
		{plain(api.Insn{Op: 0x18, Off: 1}), 0, api.ErrZero},
		{plain(api.Insn{Op: 0xb7, Src: 1}, exit), 0, api.ErrZero},
		// places count second halves, too
		{plain(wide, api.Insn{}, wide, api.Insn{}, api.Insn{Op: 0x8f}), 4, api.ErrOp},
		// what stands in a second half is no instruction
		{plain(exit, api.Insn{}), 1, api.ErrOp},
	})
}

func TestP4_1_SecondHalves(t *testing.T) {
	other := api.Insn{Op: 0x18, Src: 1, Imm: 9}
	hold(t, []one{
		{plain(wide), 0, api.ErrWide},
		{plain(exit, wide), 1, api.ErrWide},
		{mapped(1, exit, ref), 1, api.ErrWide},
		{plain(wide, exit), 0, api.ErrWide},
		{plain(wide, api.Insn{Op: 1}, exit), 0, api.ErrWide},
		{plain(wide, api.Insn{Dst: 1}, exit), 0, api.ErrWide},
		{plain(wide, api.Insn{Src: 1}, exit), 0, api.ErrWide},
		{plain(wide, api.Insn{Off: -1}, exit), 0, api.ErrWide},
		{plain(wide, api.Insn{Imm: math.MinInt32}, exit), 0, api.OK},
		{mapped(1, ref, api.Insn{Op: 1}, exit), 0, api.ErrWide},
		{mapped(1, ref, api.Insn{Dst: 1}, exit), 0, api.ErrWide},
		{mapped(1, ref, api.Insn{Src: 1}, exit), 0, api.ErrWide},
		{mapped(1, ref, api.Insn{Off: 1}, exit), 0, api.ErrWide},
		{mapped(1, ref, api.Insn{Imm: 1}, exit), 0, api.ErrWide},
		{mapped(1, ref, api.Insn{Imm: -1}, exit), 0, api.ErrWide},
		// ahead of what is wrong with a Ref's map, behind what insn.Of refuses
		{mapped(1, other), 0, api.ErrWide},
		{mapped(1, other, exit), 0, api.ErrWide},
		{plain(api.Insn{Op: 0x18, Dst: 10}), 0, api.ErrReg},
		{plain(wide, wide, exit), 0, api.ErrWide},
	})
}

func TestP4_1_RefsAndCalls(t *testing.T) {
	var l []one
	for maps := range 5 {
		for _, n := range []int32{math.MinInt32, -2, -1, 0, 1, 2, 3, 4, 5, 256, math.MaxInt32} {
			want := one{mapped(maps, exit, api.Insn{Op: 0x18, Src: 1, Imm: n}, api.Insn{}, exit), 1, api.ErrMap}
			if 0 <= n && int(n) < maps {
				want.at, want.want = 0, api.OK
			}
			l = append(l, want)
		}
	}
	for _, n := range []int32{math.MinInt32, -1, 0, 4, 6, 8, 9, 257, math.MaxInt32} {
		l = append(l, one{plain(mov, call(n), exit), 1, api.ErrCall})
	}
	// a Const has any number
	for _, n := range []int32{math.MinInt32, -1, 0, 4, math.MaxInt32} {
		l = append(l, one{plain(api.Insn{Op: 0x18, Imm: n}, api.Insn{}, exit), 0, api.OK})
	}
	hold(t, l)
}

// Rule 3 goes from instruction to instruction, not from error to error.
func TestP4_1_FirstInstruction(t *testing.T) {
	faults := []one{
		{plain(api.Insn{Op: 0x8f}), 1, api.ErrOp},
		{plain(api.Insn{Op: 0xb7, Dst: 10}), 1, api.ErrReg},
		{plain(api.Insn{Op: 0x95, Off: 1}), 1, api.ErrZero},
		{plain(wide, mov), 2, api.ErrWide},
		{plain(ref, api.Insn{}), 2, api.ErrMap},
		{plain(call(4)), 1, api.ErrCall},
	}
	var l []one
	for _, x := range faults {
		for _, y := range faults {
			l = append(l, one{plain(slices.Concat(x.img.Code, y.img.Code, []api.Insn{exit})...), 0, x.want})
			l = append(l, one{plain(slices.Concat([]api.Insn{leap(100), wide, {}}, x.img.Code, y.img.Code)...), 3, x.want})
		}
	}
	hold(t, l)
}

func TestP4_1_Jumps(t *testing.T) {
	hold(t, []one{
		{plain(leap(1), wide, api.Insn{}, exit), 0, api.ErrJump},
		{plain(leap(3), wide, api.Insn{}, exit), 0, api.ErrJump}, // to the place behind the last one
		{plain(leap(math.MaxInt16), exit), 0, api.ErrJump},
		{plain(leap(math.MinInt16), exit), 0, api.ErrJump},
		{plain(leap(-2), exit), 0, api.ErrJump}, // to -1
		{plain(jump(-2), exit), 0, api.ErrJump},
		{plain(jump(1), exit), 0, api.ErrJump},
		{plain(wide, api.Insn{}, jump(-2), exit), 2, api.ErrJump},
		{plain(wide, api.Insn{}, jump(-3), exit), 0, api.OK},
		{plain(api.Insn{Op: 0xd6, Dst: 1, Off: 1}, exit), 0, api.ErrJump},
		{plain(api.Insn{Op: 0x2d, Dst: 1, Src: 2, Off: 1}, exit), 0, api.ErrJump},
		{plain(api.Insn{Op: 0xae, Dst: 1, Src: 2, Off: 1}, exit), 0, api.ErrJump},
		// the first of several, a Jump or a Goto
		{plain(mov, leap(7), jump(8), exit), 1, api.ErrJump},
		{plain(mov, jump(7), leap(8), exit), 1, api.ErrJump},
		{plain(mov, leap(0), jump(8), exit), 2, api.ErrJump},
		// an Off that leads nowhere says nothing of what does not jump
		{plain(api.Insn{Op: 0x79, Src: 10, Off: -512}, api.Insn{Op: 0x7a, Dst: 10, Off: 512}, exit), 0, api.OK},
		// ahead of the end, behind all that is wrong with instructions
		{plain(leap(9), mov), 0, api.ErrJump},
		{plain(mov, jump(9)), 1, api.ErrJump},
		{plain(leap(9), call(4)), 1, api.ErrCall},
	})
}

func TestP4_1_End(t *testing.T) {
	hold(t, []one{
		{plain(mov, mov), 1, api.ErrFall},
		{plain(mov), 0, api.ErrFall},
		{plain(api.Insn{Op: 0x07}, api.Insn{Op: 0x07}), 1, api.ErrFall},
		{plain(exit, wide, api.Insn{}), 1, api.ErrFall}, // where it begins, not where it ends
		{mapped(1, exit, mov, ref, api.Insn{}), 2, api.ErrFall},
		{plain(exit, call(1)), 1, api.ErrFall},
		{plain(exit, jump(-2)), 1, api.ErrFall},
		{plain(exit, api.Insn{Op: 0x79}), 1, api.ErrFall},
		{plain(exit, api.Insn{Op: 0x7b}), 1, api.ErrFall},
		{plain(exit, api.Insn{Op: 0x7a}), 1, api.ErrFall},
		{plain(exit, api.Insn{Op: 0xd7, Imm: 16}), 1, api.ErrFall},
		{plain(mov, leap(-2)), 0, api.OK},
	})
}

// What is told is what the chapter says, of images that are right and nearly so, as often as tells the errors apart.
func TestP4_1_ByTheChapter(t *testing.T) {
	chance := rand.New(rand.NewSource(41))
	count := map[api.Errno]int{}
	for n := range 60000 {
		img := right(chance, 2+n%24)
		if n%8 != 0 {
			img = edited(chance, img)
		}
		at, e := told(img)
		if a, f := shape.Check(img); a != at || f != e {
			t.Fatalf("%+v: %d, %d, not %d, %d", img, a, f, at, e)
		}
		count[e]++
	}
	for _, e := range []api.Errno{api.OK, api.ErrShort, api.ErrLong, api.ErrMap, api.ErrOp, api.ErrReg, api.ErrZero, api.ErrWide, api.ErrCall, api.ErrJump, api.ErrFall} {
		if count[e] < 50 {
			t.Errorf("too few images are told %d: %d", e, count[e])
		}
	}
}

// At the limit too, where the last places count.
func TestP4_1_GreatImages(t *testing.T) {
	chance := rand.New(rand.NewSource(42))
	for range 600 {
		img := right(chance, 511)
		img.Code = append(slices.Repeat([]api.Insn{mov}, 511-len(img.Code)+chance.Intn(3)), img.Code...)
		img = pick(chance, img, edited(chance, img))
		at, e := told(img)
		if a, f := shape.Check(img); a != at || f != e {
			t.Fatalf("%+v: %d, %d, not %d, %d", img, a, f, at, e)
		}
	}
}

func TestP4_1_NothingIsChanged(t *testing.T) {
	chance := rand.New(rand.NewSource(43))
	for range 2000 {
		img := edited(chance, right(chance, 20))
		was := api.Image{Maps: slices.Clone(img.Maps[:cap(img.Maps)]), Code: slices.Clone(img.Code[:cap(img.Code)])}
		shape.Check(img)
		shape.Starts(img.Code)
		if !slices.Equal(was.Maps, img.Maps[:cap(img.Maps)]) || !slices.Equal(was.Code, img.Code[:cap(img.Code)]) {
			t.Fatal(was, img)
		}
	}
}

func TestP4_2_Starts(t *testing.T) {
	const y, n = true, false
	for _, x := range []struct {
		code []api.Insn
		want []bool
	}{
		{nil, nil},
		{[]api.Insn{}, nil},
		{[]api.Insn{exit}, []bool{y}},
		{[]api.Insn{{}}, []bool{y}},
		{[]api.Insn{wide, {}, exit}, []bool{y, n, y}},
		{[]api.Insn{ref, {}, exit}, []bool{y, n, y}},
		{[]api.Insn{wide}, []bool{y}},
		{[]api.Insn{exit, wide}, []bool{y, y}},
		{[]api.Insn{wide, wide, wide}, []bool{y, n, y}},
		{[]api.Insn{wide, wide, wide, wide, exit}, []bool{y, n, y, n, y}},
		{[]api.Insn{mov, wide, exit, exit}, []bool{y, y, n, y}},
		// what is none takes one place, also what would else be a Const or a Ref
		{[]api.Insn{{}, {}, {Op: 0x8f}, exit}, []bool{y, y, y, y}},
		{[]api.Insn{{Op: 0x18, Src: 2}, exit, exit}, []bool{y, y, y}},
		{[]api.Insn{{Op: 0x18, Dst: 10}, exit, exit}, []bool{y, y, y}},
		{[]api.Insn{{Op: 0x18, Src: 1, Off: 1}, wide, {}, exit}, []bool{y, y, n, y}},
		// a Ref of no map, and a Const whose second half is none, have two places all the same
		{[]api.Insn{{Op: 0x18, Src: 1, Imm: -1}, exit, exit}, []bool{y, n, y}},
	} {
		if l := shape.Starts(x.code); !slices.Equal(l, x.want) {
			t.Errorf("%+v: %v", x.code, l)
		}
	}
}

func TestP4_2_StartsByTheChapter(t *testing.T) {
	chance := rand.New(rand.NewSource(44))
	for n := range 50000 {
		var code []api.Insn
		for range n % 40 {
			code = append(code, pick(chance, anyInsn(chance), wide, ref, mov))
		}
		want := make([]bool, len(code))
		for _, a := range toldStarts(code) {
			want[a] = true
		}
		if l := shape.Starts(code); !slices.Equal(l, want) {
			t.Fatalf("%+v: %v, not %v", code, l, want)
		}
	}
}

// Starts knows no limit.
func TestP4_2_StartsOfMuch(t *testing.T) {
	l := shape.Starts(slices.Repeat([]api.Insn{wide, exit, exit}, 1<<14))
	for a, is := range l {
		if is != (a%3 != 1) {
			t.Fatal(a, is)
		}
	}
	if len(l) != 3<<14 {
		t.Error(len(l))
	}
}

func TestP4_2_NewMemory(t *testing.T) {
	code := []api.Insn{wide, {}, exit}
	l := shape.Starts(code)
	for k := range l[:cap(l)] {
		l[:cap(l)][k] = k == 1
	}
	if l := shape.Starts(code); !slices.Equal(l, []bool{true, false, true}) {
		t.Error(l)
	}
}

func TestP4_2_Target(t *testing.T) {
	for _, x := range []struct {
		at   int
		i    api.Insn
		want int
	}{
		{5, leap(-6), 0},
		{0, leap(0), 1},
		{0, leap(-1), 0},
		{0, leap(-2), -1},
		{-3, leap(1), -1},
		{511, leap(math.MaxInt16), 511 + 32768},
		{511, leap(math.MinInt16), 512 - 32768},
		{1 << 40, jump(7), 1<<40 + 8},
		{-1 << 40, jump(-7), -1<<40 - 6},
		{math.MaxInt - 8, jump(7), math.MaxInt},
		{math.MinInt, jump(-1), math.MinInt},
		// whatever it is
		{3, jump(2), 6},
		{3, api.Insn{Op: 0x79, Off: 2}, 6},
		{3, api.Insn{Op: 0x18, Off: 2, Imm: 9}, 6},
		{3, wide, 4},
		{3, api.Insn{Op: 255, Dst: 255, Src: 255, Off: -4, Imm: -1}, 0},
		{3, api.Insn{}, 4},
	} {
		if n := shape.Target(x.at, x.i); n != x.want {
			t.Errorf("Target(%d, %+v): %d, not %d", x.at, x.i, n, x.want)
		}
	}
}

func TestP4_2_Helper(t *testing.T) {
	for n := int32(-70000); n <= 70000; n++ {
		if want := n == 1 || n == 2 || n == 3 || n == 5 || n == 7; shape.Helper(n) != want {
			t.Errorf("Helper(%d): %v", n, !want)
		}
	}
	for _, n := range []int32{1 << 16, 1<<24 + 1, math.MaxInt32, math.MinInt32, math.MinInt32 + 1} {
		if shape.Helper(n) {
			t.Errorf("Helper(%d)", n)
		}
	}
}
