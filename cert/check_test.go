package cert_test

import (
	"fmt"
	"math/rand"
	"slices"
	"strings"
	"testing"

	"stockade/api"
	"stockade/cert"
	"stockade/flow"
	"stockade/scalar"
	"stockade/shape"
	"stockade/state"
	"stockade/verify"
)

// tells: that Check tells that number and that error of an image and some points.
func tells(t *testing.T, name string, img api.Image, l []flow.Out, at int, want api.Errno) {
	t.Helper()
	if n, e := cert.Check(img, l); n != at || e != want {
		t.Errorf("%s: %d, %d; not %d, %d", name, n, e, at, want)
	}
}

// seven: the image of the chapter's examples, and its points.
func seven(t *testing.T) (api.Image, flow.Out, flow.Out) {
	t.Helper()
	return image(t, "mov64 r0, 7\nexit\n"), begins(), out(1, with(state.Begin(), map[int]api.Reg{0: just(7)}))
}

func TestP15_2_Examples(t *testing.T) {
	img, a, b := seven(t)
	none := out(1, state.Begin())
	tells(t, "both", img, []flow.Out{a, b}, 0, 0)
	tells(t, "turned about", img, []flow.Out{b, a}, 0, 0)
	tells(t, "the first one", img, []flow.Out{a}, 0, errNone)
	tells(t, "the second one", img, []flow.Out{b}, 1, errNone)
	tells(t, "none", img, nil, 0, errNone)
	tells(t, "none, not nil", img, []flow.Out{}, 0, errNone)
	tells(t, "r0 None", img, []flow.Out{a, none}, 1, trapEmpty)
}

// Some point has to cover Begin at 0, whichever it is; all are asked, needed or not.
func TestP15_2_Begin(t *testing.T) {
	img, a, b := seven(t)
	wide := []flow.Out{out(0, api.State{}), out(1, with(api.State{}, map[int]api.Reg{0: just(7)}))}
	tells(t, "less is known", img, wide, 0, 0)
	tells(t, "less is known, and Begin", img, append(wide, a), 0, 0)
	tells(t, "less is known, turned about", img, []flow.Out{wide[1], wide[0]}, 0, 0)
	for k, s := range []api.State{withPacket(state.Begin(), 1), with(state.Begin(), map[int]api.Reg{0: just(0)}), with(state.Begin(), map[int]api.Reg{1: {Kind: pkt}}), with(state.Begin(), map[int]api.Reg{10: reg(frame, 0, 504, 504)}), withSlots(state.Begin(), map[int]api.Slot{0: have(1)}), withPacket(state.Begin(), -1)} {
		tells(t, fmt.Sprint("more is known ", k), img, []flow.Out{out(0, s), b, out(1, state.Begin())}, 3, errNone)
	}
	for _, at := range []int{1, -1, 2, 511, 512, 1 << 32} {
		tells(t, fmt.Sprint("Begin at ", at), img, []flow.Out{out(at, state.Begin()), b}, 2, errNone)
	}
	tells(t, "behind many", img, append(slices.Repeat([]flow.Out{b}, most-1), a), 0, 0)
	tells(t, "behind many, not there", img, slices.Repeat([]flow.Out{b}, most), most, errNone)
}

// Points are asked from the first one on; of each the reason, else whether what comes of it is covered.
func TestP15_2_PointByPoint(t *testing.T) {
	img, a, b := seven(t)
	empty, wide := out(1, state.Begin()), out(1, with(state.Begin(), map[int]api.Reg{0: anything()}))
	other := out(0, withPacket(state.Begin(), 9)) // what comes of it, wide covers
	tells(t, "wide", img, []flow.Out{wide, a}, 0, 0)
	tells(t, "more than is needed", img, []flow.Out{a, b, wide, other, a}, 0, 0)
	tells(t, "a reason of what is not needed", img, []flow.Out{a, b, empty, wide}, 2, trapEmpty)
	tells(t, "two reasons", img, []flow.Out{a, b, out(1, with(state.Begin(), map[int]api.Reg{0: {Kind: ctx}})), empty}, 2, trapKind)
	tells(t, "a reason first", img, []flow.Out{empty, a, out(0, api.State{})}, 0, trapEmpty)

	two := image(t, "mov64 r0, 7\nmov64 r2, 1\nexit\n")
	gone := out(1, with(api.State{}, map[int]api.Reg{0: just(7)})) // what comes of it nobody covers
	last := out(2, with(state.Begin(), map[int]api.Reg{0: just(7), 2: just(1)}))
	tells(t, "two", two, []flow.Out{a, b, last}, 0, 0)
	tells(t, "not covered", two, []flow.Out{a, last, gone, b}, 2, errNone)
	tells(t, "not covered, then a reason", two, []flow.Out{a, b, gone, last, out(2, state.Begin())}, 2, errNone)
	tells(t, "a reason, then not covered", two, []flow.Out{a, b, out(2, state.Begin()), gone, last}, 2, trapEmpty)
	tells(t, "the first one is not covered", two, []flow.Out{a, out(2, state.Begin())}, 0, errNone)
}

// The errors of flow.Step: no instruction begins there, the state may not be, a map that the image has not.
func TestP15_2_Args(t *testing.T) {
	img, a, b := seven(t)
	for _, at := range []int{-1 << 63, -1, 2, 511, 512, 1 << 32, 1<<32 + 1, 1<<63 - 1} {
		tells(t, fmt.Sprint("at ", at), img, []flow.Out{a, b, out(at, state.Begin())}, 2, errArg)
		tells(t, fmt.Sprint("first at ", at), img, []flow.Out{out(at, state.Begin()), a, b}, 0, errArg)
	}
	half := image(t, "const r0, 7\nexit\n")
	tells(t, "a second half", half, []flow.Out{a, out(1, b.S), out(2, b.S)}, 1, errArg)
	tells(t, "behind it", half, []flow.Out{a, out(2, b.S)}, 0, 0)
	for k, s := range spoilt() {
		tells(t, fmt.Sprint("may not be ", k), img, []flow.Out{a, b, out(1, s)}, 2, errArg)
	}
	for _, r := range []api.Reg{reg(ref, 4, 0, 0), reg(cell, 4, 0, 0), reg(maybeCell, 1<<40, 0, 0)} {
		tells(t, "no such map", img, []flow.Out{a, out(1, with(b.S, map[int]api.Reg{5: r})), b}, 1, errArg)
		tells(t, "no such map on the stack", img, []flow.Out{a, out(1, withSlots(b.S, map[int]api.Slot{9: laid(r)})), b}, 1, errArg)
		r.Map = 3
		tells(t, "the last map", img, []flow.Out{a, out(1, with(b.S, map[int]api.Reg{5: r})), b}, 0, 0)
	}
}

// Each reason, of the point at the place where it is told.
func TestP15_2_Reasons(t *testing.T) {
	for _, x := range []struct {
		text   string
		at     int
		reason api.Errno
	}{
		{"exit\n", 0, trapEmpty}, {"mov64 r0, r1\nexit\n", 1, trapKind}, {"load64 r6, r1+8\nload8 r0, r6+0\nexit\n", 1, trapBound}, {"put8 r10-1, 0\nput64 r10-12, 1\nexit\n", 1, trapAlign}, {"mov64 r0, 1\nput8 r1+0, 1\nexit\n", 1, trapWrite}, {"mov64 r2, r10\nmov64 r0, 0\nadd64 r2, 1048576\nexit\n", 2, trapWild},
	} {
		img := image(t, x.text)
		l := proof(img, 1)
		tells(t, x.text, img, l, x.at, x.reason)
		slices.Reverse(l)
		tells(t, x.text+" turned about", img, l, 0, x.reason)
	}
}

// What is wrong with the image is told with its number, of whatever points; more points than may be ahead of that.
func TestP15_2_Images(t *testing.T) {
	img, a, b := seven(t)
	exit := api.Insn{Op: 0x95}
	many := make([]flow.Out, most+1)
	for k, x := range []struct {
		img  api.Image
		at   int
		want api.Errno
	}{
		{api.Image{}, 0, api.ErrShort}, {api.Image{Code: make([]api.Insn, 513)}, 0, api.ErrLong}, {api.Image{Maps: append(four(), api.Map{Kind: 9, Key: 4, Value: 8, Cap: 2}), Code: img.Code}, 0, api.ErrLong}, {api.Image{Maps: []api.Map{four()[0], {}}, Code: img.Code}, 1, api.ErrMap},
		{api.Image{Code: []api.Insn{img.Code[0], {Op: 1}, exit}}, 1, api.ErrOp}, {api.Image{Code: []api.Insn{img.Code[0], exit, {Op: 0xb7, Dst: 10}, exit}}, 2, api.ErrReg}, {api.Image{Code: []api.Insn{img.Code[0], exit, {Op: 0x95, Imm: 1}}}, 2, api.ErrZero}, {api.Image{Code: []api.Insn{exit, {Op: 0x18}}}, 1, api.ErrWide},
		{api.Image{Code: []api.Insn{{Op: 0x18, Src: 1}, {}, exit}}, 0, api.ErrMap}, {api.Image{Code: []api.Insn{img.Code[0], exit, {Op: 0x85, Imm: 4}, exit}}, 2, api.ErrCall}, {api.Image{Code: []api.Insn{img.Code[0], exit, {Op: 5, Off: 9}}}, 2, api.ErrJump}, {api.Image{Code: []api.Insn{img.Code[0], exit, img.Code[0]}}, 2, api.ErrFall},
	} {
		for _, l := range [][]flow.Out{nil, {a, b}, {b}, {out(-1, api.State{Packet: -1})}, many[1:]} {
			tells(t, fmt.Sprint("image ", k), x.img, l, x.at, x.want)
		}
		tells(t, fmt.Sprint("image ", k, " and too many"), x.img, many, 0, errLong)
	}
	tells(t, "too many", img, many, 0, errLong)
	tells(t, "too many that would do", img, append(slices.Repeat([]flow.Out{a}, most), b), 0, errLong)
	tells(t, "as many as may be", img, append(slices.Repeat([]flow.Out{a}, most-1), b), 0, 0)
	tells(t, "as many as may be, wherever", img, append([]flow.Out{a}, slices.Repeat([]flow.Out{b}, most-1)...), 0, 0)
}

// Of a jump both ways have to be covered, each by one point.
func TestP15_2_BothWays(t *testing.T) {
	img := image(t, "call 5\njgt64 r0, 7, +1\nexit\nexit\n")
	at := func(k int, r api.Reg) flow.Out {
		return out(k, with(state.Begin(), map[int]api.Reg{0: r, 1: {}}))
	}
	jump, small, large := at(1, anything()), at(2, numOf(both(0, 7, 0, 7))), at(3, numOf(both(0, top, 8, top)))
	tells(t, "both", img, []flow.Out{begins(), jump, small, large}, 0, 0)
	tells(t, "turned about", img, []flow.Out{large, small, jump, begins()}, 0, 0)
	tells(t, "not the next place", img, []flow.Out{begins(), large, jump}, 2, errNone)
	tells(t, "not the target", img, []flow.Out{jump, begins(), small}, 0, errNone)
	tells(t, "parts of it", img, []flow.Out{begins(), jump, at(2, numOf(both(0, 3, 0, 3))), at(2, numOf(both(4, 3, 4, 7))), large}, 1, errNone)
	tells(t, "one too few", img, []flow.Out{begins(), jump, at(2, numOf(both(0, 7, 0, 6))), large}, 1, errNone)
	tells(t, "at each other's places", img, []flow.Out{begins(), jump, at(2, large.S.Regs[0]), at(3, small.S.Regs[0])}, 1, errNone)
	tells(t, "ways that do not go on", img, []flow.Out{begins(), jump, at(1, just(3)), at(1, just(9)), small, large}, 0, 0)
	none := image(t, "mov64 r0, 3\njgt64 r0, 7, +1\nexit\nmov64 r0, r5\nexit\n") // a way that no run goes
	known := with(state.Begin(), map[int]api.Reg{0: just(3)})
	tells(t, "one way alone", none, []flow.Out{begins(), out(1, known), out(2, known)}, 0, 0)
}

// A loop has a certificate, if its points close; and what no way comes to needs none.
func TestP15_2_Loops(t *testing.T) {
	img := image(t, "mov64 r0, 0\nadd64 r0, 1\njlt64 r0, 10, -2\nexit\n")
	s := func(lo, hi uint64) api.State {
		x, is := scalar.Settle(api.Tnum{M: top}, api.Span{Lo: lo, Hi: hi})
		if !is {
			t.Fatal(lo, hi)
		}
		return with(state.Begin(), map[int]api.Reg{0: numOf(x)})
	}
	l := []flow.Out{begins(), out(1, s(0, 9)), out(2, s(1, 10)), out(3, s(10, 10))}
	tells(t, "ten times", img, l, 0, 0)
	slices.Reverse(l)
	tells(t, "ten times, turned about", img, l, 0, 0)
	tells(t, "one number less", img, []flow.Out{begins(), out(1, s(0, 8)), out(2, s(1, 9)), out(3, s(10, 10))}, 2, errNone)
	tells(t, "no end", img, l[1:], 0, errNone)
	r, e := verify.Run(img)
	if e != api.ErrLoop || len(r.Points) > 0 {
		t.Error(r, e)
	}
	tells(t, "for ever", image(t, "goto -1\nexit\n"), []flow.Out{begins()}, 0, 0)
	round, r2 := image(t, "mov64 r2, 1\ngoto -2\nexit\n"), with(api.State{}, map[int]api.Reg{2: just(1)})
	tells(t, "for ever, there and back", round, []flow.Out{out(0, api.State{}), out(1, r2)}, 0, 0)
	tells(t, "there, and not back", round, []flow.Out{out(0, with(api.State{}, map[int]api.Reg{1: {Kind: ctx}})), out(1, r2)}, 1, errNone)
	tells(t, "what is dead", image(t, "goto +1\nmov64 r0, r10\nmov64 r0, 7\nexit\n"), []flow.Out{begins(), out(2, state.Begin()), out(3, with(state.Begin(), map[int]api.Reg{0: just(7)}))}, 0, 0)
}

// More points at a place than the verifier would keep, up to all that may be.
func TestP15_2_ManyAtAPlace(t *testing.T) {
	img := image(t, "call 5\nmov64 r0, 0\nexit\n")
	l := []flow.Out{begins()}
	for k := range most - 2 {
		l = append(l, out(2, with(state.Begin(), map[int]api.Reg{0: just(uint64(k)), 1: {}})))
	}
	first := out(1, with(state.Begin(), map[int]api.Reg{0: anything(), 1: {}}))
	tells(t, "1024", img, append(l, first), 0, 0)
	tells(t, "none of them", img, append(slices.Delete(slices.Clone(l), 1, 2), first), most-2, errNone)
	slices.Reverse(l)
	tells(t, "1024, the last one", img, append(l, first), 0, 0)
	tells(t, "1025", img, append(l, first, first), 0, errLong)
}

func TestP15_2_ByTheChapter(t *testing.T) {
	chance := rand.New(rand.NewSource(1520))
	count := map[api.Errno]int{}
	begun := 0
	for range 700 {
		img := program(t, chance, chance.Intn(8), chance.Intn(3) == 0, chance.Intn(2) == 0)
		l := proof(img, pick(chance, 1, 2, 100)) // of a program with loops the ways may be many
		if r, e := verify.Run(img); e == 0 && chance.Intn(2) == 0 {
			l = r.Points
		}
		if chance.Intn(2) == 0 {
			l = shuffled(chance, l)
		}
		for range 4 {
			want, e := toldCheck(img, l)
			if n, f := cert.Check(img, l); n != want || e != f {
				t.Fatalf("%+v and %d points: %d, %d; not %d, %d", img, len(l), n, f, want, e)
			}
			if count[e]++; e == errNone && want == len(l) {
				begun++
			}
			if img, l = changed(chance, img, l); len(l) > 300 {
				break
			}
		}
	}
	for _, e := range []api.Errno{0, errArg, errNone, api.ErrJump, trapEmpty, trapKind, trapBound, trapAlign, trapWrite, trapWild} {
		if count[e] < 12 {
			t.Errorf("too few are told %d: %d", e, count[e])
		}
	}
	if begun < 30 {
		t.Error("too few without Begin: ", begun)
	}
}

// changed: an image and points, with something changed in one of them.
func changed(chance *rand.Rand, img api.Image, l []flow.Out) (api.Image, []flow.Out) {
	l = slices.Clone(l)
	if len(l) == 0 {
		return img, append(l, begins())
	}
	k := chance.Intn(len(l))
	switch chance.Intn(8) {
	case 0:
		l = slices.Delete(l, k, k+1)
	case 1:
		l = append(l, l[k])
		l[len(l)-1].S = otherwise(chance, l[k].S)
	case 2:
		l[k].At += pick(chance, -1, 1, 1, chance.Intn(9))
	case 3:
		img.Code = slices.Clone(img.Code)
		i := &img.Code[chance.Intn(len(img.Code))]
		i.Off, i.Imm = i.Off+pick[int16](chance, 0, 0, 1, -1, 100), i.Imm+pick[int32](chance, 0, 1)
	case 4:
		img.Code = append(slices.Clone(img.Code), api.Insn{Op: 5, Off: pick[int16](chance, -2, 3)})
	case 5, 6:
		l[k].S = loosened(chance, l[k].S)
	default:
		l[k].S = otherwise(chance, l[k].S)
	}
	return img, l
}

// What is handed in is not changed, nor the room behind its end, and is asked as far as its end alone.
func TestP15_2_Unchanged(t *testing.T) {
	chance := rand.New(rand.NewSource(1521))
	for range 60 {
		img := program(t, chance, 3, false, false)
		r, e := verify.Run(img)
		if e != 0 {
			continue
		}
		room := append(shuffled(chance, r.Points), out(-1, api.State{Packet: -1}), begins())
		code := append(slices.Clone(img.Code), api.Insn{Op: 1})
		was, wasCode := slices.Clone(room), slices.Clone(code)
		if n, e := cert.Check(api.Image{Maps: img.Maps, Code: code[:len(img.Code)]}, room[:len(r.Points)]); n != 0 || e != 0 {
			t.Errorf("%d, %d", n, e)
		}
		if !slices.Equal(was, room) || !slices.Equal(wasCode, code) || !slices.Equal(img.Maps, four()) {
			t.Error("changed")
		}
	}
}

// As long a program as may be, with a point at each of its places.
func TestP15_2_LongProgram(t *testing.T) {
	img := image(t, strings.Repeat("mov64 r0, 7\n", 511)+"exit\n")
	if _, e := shape.Check(img); e != 0 {
		t.Fatal(e)
	}
	l := proof(img, 1)
	if len(l) != 512 {
		t.Fatal(len(l))
	}
	tells(t, "all", img, l, 0, 0)
	tells(t, "all but the last one", img, l[:511], 510, errNone)
	tells(t, "all, each twice", img, append(l, l...), 0, 0)
}
