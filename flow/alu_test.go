package flow_test

import (
	"math/rand"
	"strconv"
	"testing"

	"stockade/api"
	"stockade/scalar"
)

// Names by the numbers of operations; of 8, which looks at one operand, elsewhere.
var operations = []string{"add", "sub", "mul", "div", "or", "and", "lsh", "rsh", "", "mod", "xor", "mov", "arsh"}

func TestP13_1_AluEmpty(t *testing.T) {
	s := full()
	without := func(k int) api.State { return with(s, map[int]api.Reg{k: {}}) }
	for op, name := range operations {
		if name == "" {
			continue
		}
		for _, bits := range []string{"64", "32"} {
			byReg, byImm := name+bits+" r2, r3", name+bits+" r2, 5"
			num2 := with(s, map[int]api.Reg{3: just(4)})
			refused(t, byReg, without(3), trapEmpty)
			refused(t, byReg, with(without(2), map[int]api.Reg{3: {}}), trapEmpty)
			if op != 11 {
				refused(t, byReg, without(2), trapEmpty)
				refused(t, byImm, without(2), trapEmpty)
				refused(t, name+bits+" r2, r2", without(2), trapEmpty)
				continue
			}
			makes(t, byReg, with(num2, map[int]api.Reg{2: {}}), 2, just(4))
			makes(t, byImm, without(2), 2, just(5))
			refused(t, "mov"+bits+" r2, r2", without(2), trapEmpty)
		}
	}
	refused(t, "neg64 r2", without(2), trapEmpty)
	refused(t, "neg32 r2", without(2), trapEmpty)
	refused(t, "swap16 r2", without(2), trapEmpty)
}

// A wide Mov makes Dst what Src is, whatever both are.
func TestP13_1_WideMov(t *testing.T) {
	for _, a := range append(kinds(), api.Reg{}) {
		for _, b := range kinds() {
			s := with(full(), map[int]api.Reg{2: a, 3: b})
			makes(t, "mov64 r2, r3", s, 2, b)
			makes(t, "mov64 r2, -7", s, 2, just(1<<64-7))
			makes(t, "mov64 r2, 2147483647", s, 2, just(1<<31-1))
		}
	}
	makes(t, "mov64 r7, r7", full(), 7, lenOf(between(20, 90)))
}

// One that is not wide takes numbers alone, and leaves Len behind.
func TestP13_1_NarrowMov(t *testing.T) {
	for _, a := range append(kinds(), api.Reg{}) {
		for _, b := range kinds() {
			s := with(full(), map[int]api.Reg{2: a, 3: b})
			if b.Kind != num {
				refused(t, "mov32 r2, r3", s, trapKind)
			}
			makes(t, "mov32 r2, -7", s, 2, just(1<<32-7))
		}
	}
	s := with(full(), map[int]api.Reg{3: anything(), 4: just(1<<32 + 9), 5: numOf(between(1<<32, 1<<32+9))})
	makes(t, "mov32 r2, r3", s, 2, numBelow(32))
	makes(t, "mov32 r2, r4", s, 2, just(9))
	makes(t, "mov32 r6, r7", s, 6, numOf(between(20, 90)))
	makes(t, "mov32 r7, r7", s, 7, numOf(between(20, 90)))
}

func TestP13_1_AluOfNumbers(t *testing.T) {
	s := with(full(), map[int]api.Reg{2: numBelow(8), 3: just(3), 4: anything(), 5: just(1<<32 + 5), 6: lenOf(between(0, 7))})
	for text, want := range map[string]api.Reg{
		"add64 r2, 1":   numOf(both(0, 511, 1, 256)),
		"add64 r2, r3":  numOf(both(0, 511, 3, 258)),
		"add64 r2, -1":  anything(),
		"sub64 r3, 4":   just(top),
		"sub32 r3, 4":   just(1<<32 - 1),
		"mul64 r3, r3":  just(9),
		"mul32 r5, r3":  just(15),
		"mul64 r5, r3":  just(3<<32 + 15),
		"div64 r2, 16":  numOf(both(0, 15, 0, 15)),
		"or64 r3, 8":    just(11),
		"and64 r4, 7":   numOf(both(0, 7, 0, 7)),
		"and64 r4, -8":  numOf(both(0, 1<<64-8, 0, 1<<64-8)),
		"and32 r4, -8":  numOf(both(0, 1<<32-8, 0, 1<<32-8)),
		"lsh64 r3, 33":  just(3 << 33),
		"lsh32 r3, 33":  just(6),
		"rsh64 r4, 60":  numOf(both(0, 15, 0, 15)),
		"rsh32 r4, 28":  numOf(both(0, 15, 0, 15)),
		"neg64 r3":      just(1<<64 - 3),
		"neg32 r3":      just(1<<32 - 3),
		"mod64 r4, 10":  numOf(both(0, 15, 0, 9)),
		"xor64 r3, 1":   just(2),
		"xor64 r4, r4":  anything(),
		"arsh64 r5, 4":  just(1 << 28),
		"add32 r4, r3":  numBelow(32),
		"add64 r6, 0":   numOf(between(0, 7)), // Len is gone, even so
		"or64 r6, r6":   numOf(between(0, 7)),
		"and64 r6, r4":  numOf(between(0, 7)),
		"swap16 r3":     just(768),
		"swap32 r3":     just(3 << 24),
		"swap64 r3":     just(3 << 56),
		"swap16 r2":     numOf(both(0, 65280, 0, 65280)),
		"swap16 r4":     numBelow(16),
		"swap32 r4":     numBelow(32),
		"swap64 r4":     anything(),
		"swap16 r6":     numOf(both(0, 7<<8, 0, 7<<8)),
		"swap64 r5":     just(0x0500000001000000),
		"swap32 r5":     just(0x05000000),
		"arsh32 r4, 31": numBelow(32),
	} {
		r := int(text[len("add64 r")] - '0')
		if text[0] == 'o' { // or is a letter shorter
			r = int(text[len("or64 r")] - '0')
		}
		if text[:4] == "swap" || text[:4] == "arsh" {
			r = int(text[len("swap16 r")] - '0')
		}
		makes(t, text, s, r, want)
	}
}

// Numbers by each operation, wide and not: scalar.Alu's answer, without Len.
func TestP13_1_AluIsScalars(t *testing.T) {
	chance := rand.New(rand.NewSource(132))
	for op, name := range operations {
		for range 200 {
			if name == "" || op == 11 {
				continue
			}
			a, b, imm := around(chance, anyNumber(chance)), around(chance, anyNumber(chance)), int32(anyNumber(chance))
			s := with(full(), map[int]api.Reg{2: {Kind: num, S: a, Len: a.S.Hi <= longest}, 3: {Kind: num, S: b, Len: b.S.Hi <= longest}})
			for bits, wide := range map[string]bool{"64": true, "32": false} {
				want, _ := scalar.Alu(op, wide, a, b)
				makes(t, name+bits+" r2, r3", s, 2, numOf(want))
				want, _ = scalar.Alu(op, wide, a, scalar.Of(uint64(int64(imm))))
				makes(t, name+bits+" r2, "+strconv.Itoa(int(imm)), s, 2, numOf(want))
				want, _ = scalar.Alu(8, wide, a, scalar.Of(0))
				makes(t, "neg"+bits+" r2", s, 2, numOf(want))
			}
		}
	}
}

// Addresses by each operation: only Mov, and Add and Sub of some, are wide ones that may be.
func TestP13_1_AluKinds(t *testing.T) {
	moves := func(r api.Reg) bool { return r.Kind == pkt || r.Kind == frame || r.Kind == cell }
	for op, name := range operations {
		if name == "" || op == 11 {
			continue
		}
		for _, a := range kinds() {
			for _, b := range kinds() {
				s := with(full(), map[int]api.Reg{2: a, 3: b})
				if a.Kind == num && b.Kind == num {
					continue
				}
				refused(t, name+"32 r2, r3", s, trapKind)
				may := op == 0 && moves(a) && b.Kind == num || op == 1 && moves(a) && b.Kind == num || op == 0 && a.Kind == num && moves(b)
				if !may {
					refused(t, name+"64 r2, r3", s, trapKind)
				} else if _, e := steps(t, name+"64 r2, r3", s); e != 0 && e != trapWild {
					t.Error(name, a, b, e)
				}
			}
			s := with(full(), map[int]api.Reg{2: a})
			if a.Kind != num {
				refused(t, name+"32 r2, 0", s, trapKind)
			}
			if a.Kind != num && !(op <= 1 && moves(a)) {
				refused(t, name+"64 r2, 0", s, trapKind)
			}
		}
	}
	for _, a := range kinds() {
		if s := with(full(), map[int]api.Reg{2: a}); a.Kind != num {
			for _, text := range []string{"neg64 r2", "neg32 r2", "swap16 r2", "swap32 r2", "swap64 r2"} {
				refused(t, text, s, trapKind)
			}
		}
	}
}

func TestP13_1_Moved(t *testing.T) {
	for k, x := range []struct {
		lo, hi int64
		by     api.Scalar
		upLo   int64
		upHi   int64
		downLo int64
		downHi int64
	}{
		{0, 0, scalar.Of(0), 0, 0, 0, 0},
		{3, 7, scalar.Of(0), 3, 7, 3, 7},
		{512, 512, scalar.Of(8), 520, 520, 504, 504},
		{512, 512, scalar.Of(1<<64 - 8), 504, 504, 520, 520},
		{3, 7, scalar.Of(2), 5, 9, 1, 5},
		{3, 7, between(2, 10), 5, 17, -7, 5},
		{0, 0, between(1, 255), 1, 255, -255, -1},
		{-5, 5, between(0, 8), -5, 13, -13, 5},
		{0, 0, both(0, 8, 0, 8), 0, 8, -8, 0}, // the ends tell, not the bits
		{0, 0, scalar.Of(farthest), farthest, farthest, -farthest, -farthest},
		{0, 0, scalar.Of(1<<64 - farthest), -farthest, -farthest, farthest, farthest},
		{0, 0, between(0, farthest), 0, farthest, -farthest, 0},
		{0, 0, between(5, farthest), 5, farthest, -farthest, -5},
		{farthest - 1, farthest - 1, scalar.Of(1<<64 - 1), farthest - 2, farthest - 2, farthest, farthest},
		{1 - farthest, 1 - farthest, scalar.Of(1), 2 - farthest, 2 - farthest, -farthest, -farthest},
	} {
		for _, r := range []api.Reg{reg(pkt, 0, x.lo, x.hi), reg(frame, 0, x.lo, x.hi), reg(cell, 2, x.lo, x.hi)} {
			for _, by := range []api.Reg{numOf(x.by), {Kind: num, S: x.by, Len: x.by.S.Hi <= longest}} {
				up, down := r, r
				up.Lo, up.Hi, down.Lo, down.Hi = x.upLo, x.upHi, x.downLo, x.downHi
				s := with(full(), map[int]api.Reg{2: r, 3: by})
				if up.Hi-up.Lo != down.Hi-down.Lo {
					t.Fatal("row ", k)
				}
				makes(t, "add64 r2, r3", s, 2, up)
				makes(t, "add64 r3, r2", s, 3, up)
				makes(t, "sub64 r2, r3", s, 2, down)
			}
		}
	}
	s := with(full(), map[int]api.Reg{2: pktAt(1, 2)})
	makes(t, "add64 r2, -5", s, 2, pktAt(-4, -3))
	makes(t, "sub64 r2, -5", s, 2, pktAt(6, 7))
	makes(t, "add64 r2, 1048574", s, 2, pktAt(farthest-1, farthest))
	makes(t, "sub64 r2, 1048576", s, 2, pktAt(1-farthest, 2-farthest))
}

func TestP13_1_MovedTooFar(t *testing.T) {
	for _, x := range []struct {
		lo, hi   int64
		by       api.Scalar
		up, down bool // whether it goes too far
	}{
		{0, 0, scalar.Of(farthest + 1), true, true},
		{0, 0, scalar.Of(1<<64 - farthest - 1), true, true},
		{farthest, farthest, scalar.Of(1<<64 - farthest - 1), true, true}, // it would not be far, but the number is
		{-farthest, -farthest, scalar.Of(farthest + 1), true, true},
		{0, 0, scalar.Of(1 << 63), true, true},
		{0, 0, scalar.Of(1<<63 - 1), true, true},
		{0, 0, scalar.Of(1 << 32), true, true},
		{0, 0, between(0, farthest+1), true, true},
		{-farthest, -farthest, between(0, farthest+1), true, true},
		{0, 0, scalar.All(), true, true},
		{0, 0, between(1<<64-8, 1<<64-1), true, true}, // all are near, but they are not one
		{0, 0, between(1<<64-2, 1<<64-1), true, true},
		{0, 0, between(1<<63-1, 1<<63), true, true},
		{0, 0, between(0, top-1), true, true},
		{0, 0, between(1<<32, 1<<32+1), true, true},
		{farthest, farthest, scalar.Of(1), true, false},
		{farthest, farthest, scalar.Of(1<<64 - 1), false, true},
		{-farthest, -farthest, scalar.Of(1), false, true},
		{-farthest, -farthest, scalar.Of(1<<64 - 1), true, false},
		{0, farthest, between(0, 1), true, false},
		{-farthest, 0, between(0, 1), false, true},
		{-farthest, farthest, scalar.Of(1), true, true},
		{-farthest, farthest, scalar.Of(0), false, false},
		{1, 1, between(0, farthest), true, false},
		{-1, -1, between(0, farthest), false, true},
		{farthest, farthest, scalar.Of(farthest), true, false},
		{-farthest, -farthest, scalar.Of(farthest), false, true},
	} {
		for _, r := range []api.Reg{reg(pkt, 0, x.lo, x.hi), reg(frame, 0, x.lo, x.hi), reg(cell, 2, x.lo, x.hi)} {
			s := with(full(), map[int]api.Reg{2: r, 3: numOf(x.by)})
			for text, wild := range map[string]bool{"add64 r2, r3": x.up, "add64 r3, r2": x.up, "sub64 r2, r3": x.down} {
				if _, e := steps(t, text, s); (e == trapWild) != wild || e != 0 && e != trapWild {
					t.Errorf("%q of %+v and %+v: %d", text, r, x.by, e)
				}
			}
		}
	}
	refused(t, "sub64 r3, r2", with(full(), map[int]api.Reg{2: pktAt(0, 0), 3: just(0)}), trapKind)
	refused(t, "add64 r2, 1048577", with(full(), map[int]api.Reg{2: pktAt(0, 0)}), trapWild)
	refused(t, "sub64 r2, -1048577", with(full(), map[int]api.Reg{2: pktAt(0, 0)}), trapWild)
}
