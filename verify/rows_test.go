package verify_test

import (
	"math"
	"slices"
	"testing"

	"stockade/api"
	"stockade/asm"
	"stockade/flow"
	"stockade/scalar"
	"stockade/state"
	"stockade/verify"
)

const (
	num   = 1
	ctx   = 2
	pkt   = 3
	cell  = 6
	maybe = 7

	errLoop   = 28
	errDead   = 29
	errMany   = 30
	trapEmpty = 40
	trapKind  = 41
	trapBound = 42
	trapAlign = 43
	trapWrite = 44
	trapWild  = 45
)

// four: the maps of most images here.
func four() []api.Map {
	return []api.Map{{Kind: 1, Key: 4, Value: 8, Cap: 2}, {Kind: 2, Key: 1, Value: 2, Cap: 2}, {Kind: 3, Key: 2, Value: 16, Cap: 2}, {Kind: 2, Key: 16, Value: 64, Cap: 3}}
}

// image: of a program's text, with four maps.
func image(t *testing.T, text string) api.Image {
	t.Helper()
	code, line, e := asm.Parse(text)
	if e != 0 {
		t.Fatalf("line %d of %q: %d", line, text, e)
	}
	return api.Image{Maps: four(), Code: code}
}

// refused: that a program is refused there, with that number.
func refused(t *testing.T, text string, at int, want api.Errno) {
	t.Helper()
	if r, e := verify.Run(image(t, text)); e != want || r.At != at || len(r.Points) > 0 {
		t.Errorf("%.300q: %d at %d, and %d points; not %d at %d", text, e, r.At, len(r.Points), want, at)
	}
}

// through: the points of a program that is let through.
func through(t *testing.T, text string) []flow.Out {
	t.Helper()
	r, e := verify.Run(image(t, text))
	if e != 0 || r.At != 0 || len(r.Points) == 0 {
		t.Errorf("%.300q: %d at %d, and %d points", text, e, r.At, len(r.Points))
	}
	return r.Points
}

// places: that a program is let through by points at these places, in this order.
func places(t *testing.T, text string, want ...int) {
	t.Helper()
	var l []int
	for _, p := range through(t, text) {
		l = append(l, p.At)
	}
	if !slices.Equal(l, want) {
		t.Errorf("%q: points at %v, not %v", text, l, want)
	}
}

// points: that a program is let through by just these points.
func points(t *testing.T, text string, want ...flow.Out) {
	t.Helper()
	l := through(t, text)
	if len(l) != len(want) {
		t.Errorf("%q: %d points, not %d", text, len(l), len(want))
		return
	}
	for k, p := range l {
		if p != want[k] {
			t.Errorf("%q: the point %d is at %d, registers %+v, packet %d; not at %d, %+v, %d", text, k, p.At, p.S.Regs, p.S.Packet, want[k].At, want[k].S.Regs, want[k].S.Packet)
		}
	}
}

// with: the state, but for some registers.
func with(s api.State, regs map[int]api.Reg) api.State {
	for k, r := range regs {
		s.Regs[k] = r
	}
	return s
}

func just(n uint64) api.Reg            { return api.Reg{Kind: num, S: scalar.Of(n)} }
func lenOf(s api.Scalar) api.Reg       { return api.Reg{Kind: num, S: s, Len: true} }
func pktAt(at int64) api.Reg           { return api.Reg{Kind: pkt, Lo: at, Hi: at} }
func anything() api.Reg                { return api.Reg{Kind: num, S: scalar.All()} }
func out(at int, s api.State) flow.Out { return flow.Out{At: at, S: s} }

// both: the scalar of a tnum's V and M and a span's ends.
func both(v, m, lo, hi uint64) api.Scalar {
	return api.Scalar{T: api.Tnum{V: v, M: m}, S: api.Span{Lo: lo, Hi: hi}}
}

func TestP14_1_Examples(t *testing.T) {
	begin := state.Begin()
	points(t, "mov64 r0, 7\nexit\n", out(0, begin), out(1, with(begin, map[int]api.Reg{0: just(7)})))
	refused(t, "exit\n", 0, trapEmpty)
	refused(t, "goto -1\nexit\n", 0, errLoop)
	refused(t, "goto +1\nmov64 r0, 0\nexit\n", 1, errDead)

	refused(t, "load64 r6, r1+8\nload8 r0, r6+0\nexit\n", 1, trapBound)
	places(t, "load64 r6, r1+8\nload32 r2, r1+0\njlt64 r2, 1, +2\nload8 r0, r6+0\nexit\nmov64 r0, 0\nexit\n", 0, 1, 2, 3, 4, 5, 6)

	refused(t, "put32 r10-4, 0\nmov64 r2, r10\nadd64 r2, -4\nmap r1, 0\ncall 1\nload64 r0, r0+0\nexit\n", 6, trapKind)
	places(t, "put32 r10-4, 0\nmov64 r2, r10\nadd64 r2, -4\nmap r1, 0\ncall 1\njeq64 r0, 0, +1\nload64 r0, r0+0\nexit\n", 0, 1, 2, 3, 5, 6, 7, 8)

	refused(t, "load32 r3, r1+0\njeq64 r3, 0, +1\nmov64 r2, 0\nmov64 r0, r2\nexit\n", 3, trapEmpty)
}

// The document's own examples of the whole.
func TestP14_1_Wholes(t *testing.T) {
	masked := "put32 r10-4, 1\nmov64 r2, r10\nadd64 r2, -4\nload32 r6, r1+4\nand64 r6, 7\nmap r1, 0\ncall 1\njeq64 r0, 0, +3\nadd64 r0, r6\n"
	through(t, masked+"load8 r0, r0+0\nexit\nmov64 r0, 0\nexit\n")
	refused(t, masked+"load16 r0, r0+0\nexit\nmov64 r0, 0\nexit\n", 10, trapBound)

	through(t, "load32 r2, r1+0\nmov64 r0, 0\njlt64 r2, 60, +2\njgt64 r2, 1500, +1\nmov64 r0, 2\nexit\n")
}

// What chapter 4 refuses is told first, with its number: of a map, of a place.
func TestP14_1_Shape(t *testing.T) {
	exit, loop, good := api.Insn{Op: 0x95}, api.Insn{Op: 0x05, Off: -1}, four()[0]
	for k, x := range []struct {
		img  api.Image
		at   int
		want api.Errno
	}{
		{api.Image{}, 0, api.ErrShort},
		{api.Image{Maps: []api.Map{good}}, 0, api.ErrShort},
		{api.Image{Code: slices.Repeat([]api.Insn{exit}, 513)}, 0, api.ErrLong},
		{api.Image{Code: slices.Repeat([]api.Insn{loop}, 1<<16)}, 0, api.ErrLong},
		{api.Image{Code: []api.Insn{exit}, Maps: slices.Repeat([]api.Map{good}, 5)}, 0, api.ErrLong},
		{api.Image{Code: []api.Insn{exit}, Maps: []api.Map{good, good, {}}}, 2, api.ErrMap},
		{api.Image{Code: []api.Insn{loop, exit, {}}}, 2, api.ErrOp},
		{api.Image{Code: []api.Insn{exit, loop, {Op: 0xb7, Dst: 10}}}, 2, api.ErrReg},
		{api.Image{Code: []api.Insn{exit, {Op: 0x95, Imm: 1}}}, 1, api.ErrZero},
		{api.Image{Code: []api.Insn{loop, exit, exit, {Op: 0x18}}}, 3, api.ErrWide},
		{api.Image{Code: []api.Insn{exit, {Op: 0x18, Src: 1}, {}, exit}}, 1, api.ErrMap},
		{api.Image{Code: []api.Insn{exit, {Op: 0x85, Imm: 4}, exit}}, 1, api.ErrCall},
		{api.Image{Code: []api.Insn{loop, {Op: 0x05, Off: 1}}}, 1, api.ErrJump},
		{api.Image{Code: []api.Insn{loop, exit, {Op: 0xb7}}}, 2, api.ErrFall},
	} {
		if r, e := verify.Run(x.img); e != x.want || r.At != x.at || len(r.Points) > 0 {
			t.Errorf("row %d: %d at %d, not %d at %d", k, e, r.At, x.want, x.at)
		}
	}
}

// A way that comes back is told of the whole program, ahead of what no way comes to and of all that is known; also where no run can go it.
func TestP14_1_Loop(t *testing.T) {
	for _, text := range []string{
		"goto -1\n",
		"mov64 r0, 0\ngoto -2\n",
		"goto +0\ngoto -2\nexit\n",
		"mov64 r0, 0\njeq64 r0, 0, -1\nexit\n",
		"mov64 r0, 0\njne64 r0, 0, -2\nexit\n",
		"mov64 r0, r5\njeq64 r0, 0, -2\nexit\n",
		"mov64 r0, 1\nconst r3, 5\nadd64 r0, 1\njlt64 r0, 9, -2\nexit\n",
		"jeq64 r0, 0, +1\nexit\ngoto -1\n",
	} {
		refused(t, text, 0, errLoop)
	}
	refused(t, "mov64 r0, 0\nexit\ngoto -1\n", 2, errDead) // no way comes to this one
	refused(t, "exit\nmov64 r0, 0\ngoto -2\n", 1, errDead)
	places(t, "mov64 r0, 0\ngoto +1\nexit\ngoto -2\n", 0, 1, 3, 2) // a jump back that is no loop
}

// What no way comes to is told ahead of all that is known; the first such instruction, by places.
func TestP14_1_Dead(t *testing.T) {
	refused(t, "exit\nexit\n", 1, errDead)
	refused(t, "mov64 r0, 0\nexit\nmov64 r0, 0\nexit\n", 2, errDead)
	refused(t, "mov64 r0, r4\ngoto +2\nexit\nexit\nexit\n", 2, errDead)
	refused(t, "const r0, 5\ngoto +2\nconst r0, 6\nexit\n", 3, errDead)
	refused(t, "jeq64 r0, 0, +1\ngoto +1\ngoto +1\nexit\nexit\nexit\n", 5, errDead)

	// A way on which no run can come is one all the same; what is there is not looked at.
	places(t, "mov64 r0, 1\njeq64 r0, 1, +1\nmov64 r0, r7\nexit\n", 0, 1, 3)
	places(t, "mov64 r0, 1\njne64 r0, 1, +1\nexit\nload64 r0, r1+99\nexit\n", 0, 1, 2)
	places(t, "mov64 r0, 1\nmov64 r3, r1\njeq64 r3, 0, +1\nexit\nput8 r1+0, 1\nexit\n", 0, 1, 2, 3)
}

func TestP14_1_Reasons(t *testing.T) {
	refused(t, "mov64 r0, r1\nexit\n", 1, trapKind)
	refused(t, "mov64 r0, r3\nexit\n", 0, trapEmpty)
	refused(t, "const r3, 7\nmov64 r0, r4\nexit\n", 2, trapEmpty)
	refused(t, "put64 r10-8, 1\nload64 r0, r10-9\nexit\n", 1, trapAlign)
	refused(t, "put8 r1+0, 1\nmov64 r0, 0\nexit\n", 0, trapWrite)
	refused(t, "mov64 r2, r10\nadd64 r2, 1048576\nmov64 r0, 0\nexit\n", 1, trapWild)
	refused(t, "mov64 r0, 0\nload64 r2, r10-520\nexit\n", 1, trapBound)
	refused(t, "mov64 r0, 0\nload64 r2, r10-512\nexit\n", 1, trapEmpty)
	refused(t, "mov64 r0, 0\nmov64 r2, 5\ncall 7\nadd64 r0, r2\nexit\n", 3, trapEmpty)

	// Of what stands ahead of it, and of what would be behind it, nothing is told.
	refused(t, "mov64 r0, r1\nadd64 r0, 1\nmov64 r0, r9\nexit\n", 1, trapKind)

	// One way that traps is enough, whichever.
	refused(t, "load32 r2, r1+0\nmov64 r0, 0\njeq64 r2, 7, +1\nexit\nmov64 r0, r1\nexit\n", 5, trapKind)
	refused(t, "load32 r2, r1+0\nmov64 r0, 0\njeq64 r2, 7, +2\nmov64 r0, r1\nexit\nexit\n", 4, trapKind)
	refused(t, "load32 r2, r1+0\nload64 r3, r1+8\nmov64 r0, 0\njle64 r2, 13, +2\nload16 r0, r3+13\nexit\nexit\n", 4, trapBound)
	places(t, "load32 r2, r1+0\nload64 r3, r1+8\nmov64 r0, 0\njle64 r2, 14, +2\nload16 r0, r3+13\nexit\nexit\n", 0, 1, 2, 3, 4, 5, 6)
}

// Of two reasons that one is told to which the search comes first: the one where a condition does not hold, and all behind it, ahead of the one where it holds; of two conditions the later one's.
func TestP14_1_WhichReason(t *testing.T) {
	length := "load32 r2, r1+0\n"
	refused(t, length+"jeq64 r2, 1, +1\nexit\nexit\n", 2, trapEmpty)
	refused(t, length+"jeq64 r2, 1, +2\nmov64 r0, 0\nexit\nexit\n", 4, trapEmpty)
	refused(t, length+"jeq64 r2, 1, +4\njeq64 r2, 2, +2\nmov64 r0, 0\nexit\nexit\nexit\n", 5, trapEmpty)
	refused(t, length+"jeq64 r2, 1, +3\njeq64 r2, 2, +3\nmov64 r0, 0\nexit\nexit\nexit\n", 6, trapEmpty)
	refused(t, length+"jeq64 r2, 1, +3\njeq64 r2, 2, +3\nmov64 r0, 0\nexit\nexit\nmov64 r0, r1\nmov64 r3, r9\nexit\n", 7, trapEmpty)
	refused(t, length+"jeq64 r2, 1, +3\nmov64 r0, 0\nmov64 r5, 0\nexit\nput8 r1+0, 1\nload8 r0, r1+1\nexit\n", 5, trapWrite)

	// A state that one that was looked at covers brings no new reason; one that none covers does.
	refused(t, "call 5\njset64 r0, r0, +1\nmov64 r3, 1\nmov64 r0, r3\nexit\n", 3, trapEmpty)
	places(t, "call 5\nmov64 r3, 1\njset64 r0, r0, +1\nmov64 r3, 1\nmov64 r0, r3\nexit\n", 0, 1, 2, 3, 4, 5)
}

// Whatever is handed in: an answer, and nothing but the place beside an error.
func TestP14_1_Whatever(t *testing.T) {
	for op := range 256 {
		for _, imm := range []int32{0, 1, 16, math.MinInt32, math.MaxInt32} {
			for _, off := range []int16{0, -1, 1, math.MinInt16, math.MaxInt16} {
				i := api.Insn{Op: byte(op), Dst: byte(op % 12), Src: byte(op % 5), Off: off, Imm: imm}
				for _, code := range [][]api.Insn{{i}, {i, i}, {i, {Op: 0x95}}, {i, {}, {Op: 0x95}}, {{Op: 0xb7}, i, {Op: 0x05, Off: -2}}, slices.Repeat([]api.Insn{i}, 512)} {
					for _, maps := range [][]api.Map{nil, four(), {{}}} {
						r, e := verify.Run(api.Image{Maps: maps, Code: code})
						if e == 0 && (r.At != 0 || len(r.Points) == 0) || e != 0 && len(r.Points) > 0 {
							t.Fatalf("%+v: %d at %d, %d points", code, e, r.At, len(r.Points))
						}
					}
				}
			}
		}
	}
}
