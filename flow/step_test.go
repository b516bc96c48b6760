package flow_test

import (
	"math"
	"math/rand"
	"reflect"
	"slices"
	"testing"

	"stockade/api"
	"stockade/flow"
	"stockade/insn"
	"stockade/shape"
	"stockade/state"
)

func TestP13_1_Examples(t *testing.T) {
	begin := state.Begin()
	makes(t, "mov64 r0, 7", begin, 0, just(7))
	refused(t, "exit", begin, trapEmpty)

	length := lenOf(both(0, 65535, 0, 65535))
	makes(t, "load32 r2, r1+0", begin, 2, length)
	s := with(begin, map[int]api.Reg{2: length})
	short := with(s, map[int]api.Reg{2: lenOf(both(0, 15, 0, 13))})
	long := withPacket(with(s, map[int]api.Reg{2: lenOf(both(0, 65535, 14, 65535))}), 14)
	leads(t, "jge64 r2, 14, +2", s, flow.Out{At: 1, S: short}, flow.Out{At: 3, S: long})

	s = with(begin, map[int]api.Reg{0: maybe(1)})
	leads(t, "jeq64 r0, 0, +2", s, flow.Out{At: 1, S: with(s, map[int]api.Reg{0: cellAt(1, 0, 0)})}, flow.Out{At: 3, S: with(s, map[int]api.Reg{0: just(0)})})

	makes(t, "mov64 r2, r10", begin, 2, frameAt(512))
	s = with(begin, map[int]api.Reg{2: frameAt(512), 3: numOf(between(0, 8))})
	makes(t, "add64 r2, r3", s, 2, reg(frame, 0, 512, 520))
	refused(t, "load8 r4, r2+0", with(begin, map[int]api.Reg{2: reg(frame, 0, 512, 520)}), trapWild)
}

// What chapter 4 refuses is told ahead of all else.
func TestP13_1_Images(t *testing.T) {
	exit := api.Insn{Op: 0x95}
	good := api.Map{Kind: 1, Key: 4, Value: 8, Cap: 1}
	for k, x := range []struct {
		img  api.Image
		want api.Errno
	}{
		{api.Image{}, api.ErrShort},
		{api.Image{Maps: []api.Map{good}}, api.ErrShort},
		{api.Image{Code: slices.Repeat([]api.Insn{exit}, 513)}, api.ErrLong},
		{api.Image{Code: []api.Insn{exit}, Maps: slices.Repeat([]api.Map{good}, 5)}, api.ErrLong},
		{api.Image{Code: []api.Insn{exit}, Maps: []api.Map{good, {}}}, api.ErrMap},
		{api.Image{Code: []api.Insn{exit, {}}}, api.ErrOp},
		{api.Image{Code: []api.Insn{exit, {Op: 0xb7, Dst: 10}}}, api.ErrReg},
		{api.Image{Code: []api.Insn{exit, {Op: 0x95, Imm: 1}}}, api.ErrZero},
		{api.Image{Code: []api.Insn{exit, {Op: 0x18}}}, api.ErrWide},
		{api.Image{Code: []api.Insn{exit, {Op: 0x18, Src: 1}, {}, exit}}, api.ErrMap},
		{api.Image{Code: []api.Insn{exit, {Op: 0x85, Imm: 4}, exit}}, api.ErrCall},
		{api.Image{Code: []api.Insn{exit, {Op: 0x05, Off: 1}}}, api.ErrJump},
		{api.Image{Code: []api.Insn{exit, {Op: 0xb7}}}, api.ErrFall},
	} {
		for _, at := range []int{0, 1, -1, 600} {
			for _, s := range []api.State{full(), {}, withPacket(full(), -1), with(full(), map[int]api.Reg{0: refTo(9)})} {
				if l, e := flow.Step(x.img, at, s); e != x.want || len(l) > 0 {
					t.Errorf("row %d at %d: %d, not %d", k, at, e, x.want)
				}
			}
		}
	}
}

// Only the places at which an instruction begins are any.
func TestP13_1_Places(t *testing.T) {
	img := line(t, "const r2, 7")
	for at, is := range []bool{true, false, true, true, false, true, true, true, true} {
		if _, e := flow.Step(img, at, full()); (e == errArg) == is {
			t.Errorf("at %d: %d", at, e)
		}
	}
	for _, at := range []int{-1, -3, 9, 10, 512, 1 << 32, math.MaxInt, math.MinInt} {
		if l, e := flow.Step(img, at, full()); e != errArg || len(l) > 0 {
			t.Errorf("at %d: %d", at, e)
		}
	}
}

// badRegs: some that may not be.
func badRegs() []api.Reg {
	return []api.Reg{{Kind: 8}, {Kind: 255}, {Len: true}, {Lo: 1}, {Map: 1}, numOf(both(1, 1, 1, 1)), numOf(both(0, 7, 0, 3)), numOf(both(0, 0, 1, 0)), lenOf(both(65536, 0, 65536, 65536)), {Kind: num, Hi: 1}, reg(ctx, 0, 1, 1), pktAt(2, 1), pktAt(0, farthest+1), frameAt(-farthest - 1), refTo(-1), maybe(-1), cellAt(-1, 0, 0), reg(ref, 0, 0, 1), reg(maybeCell, 0, 0, 1)}
}

func TestP13_1_States(t *testing.T) {
	img := line(t, "mov64 r0, 7")
	bad := []api.State{withPacket(full(), -1), withPacket(full(), 65536), withSlots(full(), map[int]api.Slot{5: {Have: 15, R: just(1)}}), withSlots(full(), map[int]api.Slot{5: {Have: 255, R: api.Reg{Len: true}}})}
	for k, r := range badRegs() {
		bad = append(bad, with(full(), map[int]api.Reg{k % 11: r}), withSlots(full(), map[int]api.Slot{k % 64: laid(r)}))
	}
	for _, s := range bad {
		if l, e := flow.Step(img, aheadPlaces, s); e != errArg || len(l) > 0 {
			t.Errorf("%+v: %d", s, e)
		}
	}
}

// A map that a register, or one on the stack, has is one of the image's; where none is told of, no map is wanted.
func TestP13_1_Maps(t *testing.T) {
	for maps := range 5 {
		img := line(t, "mov64 r0, 7")
		img.Maps = img.Maps[:maps]
		for _, kind := range []byte{ref, cell, maybeCell} {
			for _, of := range []int{0, 1, 2, 3, 4, 5, math.MaxInt} {
				for k := range 11 {
					_, e := flow.Step(img, aheadPlaces, with(state.Begin(), map[int]api.Reg{k: reg(kind, of, 0, 0)}))
					if (e == 0) != (of < maps) || e != 0 && e != errArg {
						t.Errorf("r%d, %d of %d maps: %d", k, of, maps, e)
					}
				}
				for k := range 64 {
					_, e := flow.Step(img, aheadPlaces, withSlots(state.Begin(), map[int]api.Slot{k: laid(reg(kind, of, 0, 0))}))
					if (e == 0) != (of < maps) || e != 0 && e != errArg {
						t.Errorf("slot %d, %d of %d maps: %d", k, of, maps, e)
					}
				}
			}
		}
	}
	img := line(t, "mov64 r0, 7")
	img.Maps = nil
	s := with(api.State{}, map[int]api.Reg{1: context(), 2: just(4), 3: pktAt(1, 2), 4: frameAt(8)})
	s = withSlots(s, map[int]api.Slot{1: laid(context()), 2: laid(just(4)), 3: laid(pktAt(1, 2)), 4: laid(frameAt(8)), 5: have(7)})
	if _, e := flow.Step(img, aheadPlaces, s); e != 0 {
		t.Error(e)
	}
}

// same: whether two answers are.
func same(a, b []flow.Out) bool { return slices.Equal(a, b) }

// What is told is what the chapter says, whatever the instruction and the state, as often as tells the reasons apart.
func TestP13_1_ByTheChapter(t *testing.T) {
	chance := rand.New(rand.NewSource(131))
	count := map[[2]int]int{}
	for n := range 60000 {
		var maps []api.Map
		for range pick(chance, 4, 4, 4, chance.Intn(5)) {
			maps = append(maps, anyMap(chance))
		}
		img, at := imageOf(chance, anyInsn(chance, len(maps)), maps)
		s := anyState(chance, len(maps))
		if n%40 == 0 {
			at = chance.Intn(len(img.Code)+2) - 1
		}
		if n%50 == 0 {
			s = anyState(chance, 4)
		}
		want, e := told(img, at, s)
		l, f := flow.Step(img, at, s)
		if e != f || !same(l, want) {
			t.Fatalf("%+v at %d of %+v: %d, not %d; %+v, not %+v", img, at, s, f, e, l, want)
		}
		if e != errArg || at >= 0 && at < len(img.Code) && shape.Starts(img.Code)[at] {
			w, _ := insn.Of(img.Code[at])
			count[[2]int{w.Class, int(e)}]++
		}
	}
	for class, reasons := range map[int][]int{
		insn.Alu: {0, trapEmpty, trapKind, trapWild}, insn.Swap: {0, trapEmpty, trapKind}, insn.Const: {0}, insn.Ref: {0}, insn.Goto: {0}, insn.Exit: {0, trapEmpty, trapKind},
		insn.Load: {0, trapEmpty, trapKind, trapBound, trapWild, trapAlign}, insn.Store: {0, trapEmpty, trapKind, trapBound, trapWild, trapAlign, trapWrite}, insn.StoreImm: {0, trapEmpty, trapKind, trapBound, trapWild, trapAlign, trapWrite},
		insn.Jump: {0, trapEmpty, trapKind}, insn.Call: {0, trapEmpty, trapKind, trapBound, trapWild},
	} {
		for _, e := range reasons {
			if count[[2]int{class, e}] < 40 {
				t.Errorf("too few of the class %d: %d are told %d", class, count[[2]int{class, e}], e)
			}
		}
	}
}

// Whatever is handed in, images too that are none: the chapter's answer, and nothing is changed.
func TestP13_1_Whatever(t *testing.T) {
	chance := rand.New(rand.NewSource(1310))
	for range 8000 {
		img, at := imageOf(chance, anyInsn(chance, 4), four())
		for range chance.Intn(3) {
			k := chance.Intn(len(img.Code))
			img.Code[k] = api.Insn{Op: byte(chance.Intn(256)), Dst: byte(chance.Intn(13)), Src: byte(chance.Intn(13)), Off: int16(chance.Intn(5) - 2), Imm: int32(chance.Intn(9))}
		}
		if chance.Intn(9) == 0 {
			img.Maps = img.Maps[chance.Intn(4):]
		}
		s := anyState(chance, 4)
		if chance.Intn(9) == 0 {
			s.Regs[chance.Intn(11)] = pick(chance, badRegs()...)
		}
		whole := img
		cut := len(img.Code) - chance.Intn(2)
		img.Code = img.Code[:cut]
		was := api.Image{Maps: slices.Clone(whole.Maps), Code: slices.Clone(whole.Code)}
		want, e := told(img, at, s)
		if l, f := flow.Step(img, at, s); f != e || !same(l, want) {
			t.Fatalf("%+v at %d of %+v: %d, not %d", img, at, s, f, e)
		}
		if !reflect.DeepEqual(was, whole) {
			t.Fatalf("%+v has become %+v", was, whole)
		}
	}
}

// No later answer shows what is written into an earlier one.
func TestP13_1_NewMemory(t *testing.T) {
	img := line(t, "jeq64 r7, 30, +1")
	l, _ := flow.Step(img, aheadPlaces, full())
	want := slices.Clone(l)
	clear(l[:cap(l)])
	if again, e := flow.Step(img, aheadPlaces, full()); e != 0 || !same(again, want) {
		t.Error(again, e)
	}
}

// Behind each instruction the next place is the one behind it, of a Const or a Ref two behind it, but of a Goto its target; there is one state.
func TestP13_1_NextPlaces(t *testing.T) {
	s := full()
	for text, at := range map[string]int{"mov64 r0, 7": 1, "swap16 r0": 1, "const r0, 7": 2, "map r1, 2": 2, "load64 r0, r10-512": 1, "store64 r10-8, r0": 1, "put8 r10-1, 3": 1, "call 5": 1, "goto +0": 1, "goto +2": 3, "goto -2": -1, "goto -4": -3} {
		l, e := steps(t, text, s)
		if e != 0 || len(l) != 1 || l[0].At != aheadPlaces+at {
			t.Errorf("%q: %d, %d states", text, e, len(l))
		}
	}
	leads(t, "goto +1", s, flow.Out{At: 2, S: s})
	leads(t, "goto -1", s, flow.Out{At: 0, S: s})
}

func TestP13_1_ExitAndConst(t *testing.T) {
	s := full()
	leads(t, "exit", s)
	for _, r := range kinds() {
		if r.Kind == num {
			leads(t, "exit", with(s, map[int]api.Reg{0: r}))
		} else {
			refused(t, "exit", with(s, map[int]api.Reg{0: r}), trapKind)
		}
	}
	refused(t, "exit", with(s, map[int]api.Reg{0: {}}), trapEmpty)

	for text, n := range map[string]uint64{"const r3, 0": 0, "const r3, 7": 7, "const r3, 4294967295": 1<<32 - 1, "const r3, 4294967296": 1 << 32, "const r3, 8589934591": 1<<33 - 1, "const r3, 18446744073709551615": top, "const r3, 9223372036854775808": 1 << 63, "const r3, 18446744071562067968": 1<<64 - 1<<31, "const r3, 2147483648": 1 << 31, "const r3, 18446744069414584320": 1<<64 - 1<<32} {
		leads(t, text, s, flow.Out{At: 2, S: with(s, map[int]api.Reg{3: just(n)})})
		leads(t, text, with(s, map[int]api.Reg{3: {}}), flow.Out{At: 2, S: with(s, map[int]api.Reg{3: just(n)})})
	}
	for m := range 4 {
		leads(t, "map r7, "+string(rune('0'+m)), s, flow.Out{At: 2, S: with(s, map[int]api.Reg{7: refTo(m)})})
	}
}

// No answer hangs on what stands elsewhere in the program.
func TestP13_1_ElsewhereInTheProgram(t *testing.T) {
	chance := rand.New(rand.NewSource(1312))
	for range 3000 {
		i := anyInsn(chance, 4)
		a, at := imageOf(chance, i, four())
		if w, _ := insn.Of(i); w.Class == insn.Jump || w.Class == insn.Goto {
			continue
		}
		b := api.Image{Maps: a.Maps, Code: slices.Repeat([]api.Insn{{Op: 0xbf, Dst: 4, Src: 5}}, 7)}
		b.Code = append(append(b.Code, a.Code[at:at+insn.Places(i)]...), api.Insn{Op: 0x05, Off: -1})
		if _, e := shape.Check(b); e != 0 {
			t.Fatal(b, e)
		}
		s := anyState(chance, 4)
		l, e := flow.Step(a, at, s)
		m, f := flow.Step(b, 7, s)
		if e != f || len(l) != len(m) {
			t.Fatalf("%+v of %+v: %d and %d", i, s, e, f)
		}
		for k := range l {
			if l[k].S != m[k].S || l[k].At-at != m[k].At-7 {
				t.Fatalf("%+v of %+v: other states", i, s)
			}
		}
	}
}
