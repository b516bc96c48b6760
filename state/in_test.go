package state_test

import (
	"math"
	"math/rand"
	"testing"

	"stockade/api"
	"stockade/scalar"
	"stockade/state"
)

func TestP12_3_Examples(t *testing.T) {
	if !state.In(state.Begin(), api.State{}) || state.In(api.State{}, state.Begin()) {
		t.Error("Begin, the zero state")
	}
}

func TestP12_3_RegRows(t *testing.T) {
	maybe1 := reg(maybeCell, 1, 0, 0)
	for k, x := range []struct {
		a, b api.Reg
		in   bool
	}{
		{api.Reg{}, api.Reg{}, true}, {just(1), api.Reg{}, true}, {maybe1, api.Reg{}, true}, {api.Reg{}, just(1), false}, {api.Reg{}, numOf(scalar.All()), false}, {api.Reg{}, reg(ctx, 0, 0, 0), false}, {api.Reg{}, maybe1, false},
		{just(3), numOf(both(1, 6, 3, 5)), true}, {just(4), numOf(both(1, 6, 3, 5)), false}, {just(7), numOf(both(1, 6, 3, 5)), false}, {numOf(both(1, 6, 3, 5)), just(3), false}, {numOf(scalar.All()), numOf(scalar.All()), true},
		{justLen(3), just(3), true}, {just(3), justLen(3), false}, {justLen(3), justLen(3), true}, {justLen(3), lenOf(scalar.Below(8)), true}, {lenOf(scalar.Below(8)), justLen(3), false},
		{reg(ctx, 0, 0, 0), reg(ctx, 0, 0, 0), true}, {reg(ctx, 0, 0, 0), reg(pkt, 0, 0, 0), false}, {reg(ctx, 0, 0, 0), just(0), false}, {just(0), reg(ctx, 0, 0, 0), false},
		{reg(pkt, 0, 1, 2), reg(pkt, 0, 1, 2), true}, {reg(pkt, 0, 1, 2), reg(pkt, 0, 0, 2), true}, {reg(pkt, 0, 1, 2), reg(pkt, 0, 1, 3), true}, {reg(pkt, 0, 1, 2), reg(pkt, 0, 2, 2), false}, {reg(pkt, 0, 1, 2), reg(pkt, 0, 1, 1), false}, {reg(pkt, 0, 1, 2), reg(frame, 0, 1, 2), false}, {reg(pkt, 0, 1, 2), reg(pkt, 0, 4, 5), false}, {reg(pkt, 0, 1, 2), reg(pkt, 0, -2, -1), false},
		{reg(frame, 0, 504, 512), reg(frame, 0, 0, 512), true}, {reg(frame, 0, 0, 512), reg(frame, 0, 504, 512), false},
		{reg(cell, 1, 1, 2), reg(cell, 1, 0, 3), true}, {reg(cell, 1, 1, 2), reg(cell, 2, 0, 3), false}, {reg(cell, 1, 1, 2), reg(cell, 1, 2, 3), false}, {reg(cell, 1, 1, 2), reg(cell, 1, 0, 1), false},
		{reg(ref, 1, 0, 0), reg(ref, 1, 0, 0), true}, {reg(ref, 1, 0, 0), reg(ref, 2, 0, 0), false}, {reg(ref, 1, 0, 0), reg(cell, 1, 0, 0), false}, {reg(ref, 1, 0, 0), maybe1, false},
		{maybe1, maybe1, true}, {reg(maybeCell, 2, 0, 0), maybe1, false}, {maybe1, reg(cell, 1, 0, 0), false}, {maybe1, just(0), false}, {maybe1, reg(ref, 1, 0, 0), false},
		{reg(cell, 1, 0, 0), maybe1, true}, {reg(cell, 2, 0, 0), maybe1, false}, {reg(cell, 1, 0, 1), maybe1, false}, {reg(cell, 1, -1, 0), maybe1, false}, {reg(cell, 1, 1, 1), maybe1, false},
		{just(0), maybe1, true}, {justLen(0), maybe1, true}, {just(1), maybe1, false}, {numOf(both(0, 1, 0, 1)), maybe1, false}, {numOf(hollow()), maybe1, false}, {just(0), reg(maybeCell, 0, 0, 0), true},
		{reg(pkt, 0, 0, 0), reg(maybeCell, 0, 0, 0), false}, {reg(ctx, 0, 0, 0), reg(maybeCell, 0, 0, 0), false}, {reg(frame, 0, 0, 0), reg(maybeCell, 0, 0, 0), false}, {reg(ref, 0, 0, 0), reg(maybeCell, 0, 0, 0), false},
	} {
		if state.In(withReg(4, x.a), withReg(4, x.b)) != x.in {
			t.Errorf("row %d: %v, %v", k, x.a, x.b)
		}
		if (x.a.Kind == none || x.b.Kind == none) && x.a != x.b {
			continue // laid in a slot they tell of its bytes, too
		}
		if state.In(withSlot(4, laid(x.a)), withSlot(4, laid(x.b))) != x.in {
			t.Errorf("row %d, in a slot: %v, %v", k, x.a, x.b)
		}
	}
}

func TestP12_3_SlotRows(t *testing.T) {
	all, at := laid(numOf(scalar.All())), laid(reg(frame, 0, 512, 512))
	for k, x := range []struct {
		a, b api.Slot
		in   bool
	}{
		{have(0), have(0), true}, {have(15), have(3), true}, {have(15), have(0), true}, {have(3), have(15), false}, {have(15), have(16), false}, {have(255), have(255), true}, {have(0), have(128), false},
		{laid(just(7)), have(255), true}, {laid(just(7)), have(15), true}, {laid(justLen(7)), have(255), true}, {laid(numOf(hollow())), have(1), true},
		{at, have(0), true}, {at, have(1), false}, {at, have(128), false}, {laid(reg(maybeCell, 1, 0, 0)), have(0), true}, {laid(reg(maybeCell, 1, 0, 0)), have(1), false}, {laid(reg(ctx, 0, 0, 0)), have(255), false}, {laid(reg(ref, 0, 0, 0)), have(255), false},
		{have(255), all, true}, {have(254), all, false}, {have(0), all, false}, {have(127), all, false},
		{have(255), laid(numOf(both(0, top, 1, top))), false}, {have(255), laid(numOf(both(0, top, 0, top-1))), false}, {have(255), laid(lenOf(scalar.Below(16))), false}, {have(255), laid(just(0)), false}, {have(255), at, false}, {have(0), at, false}, {have(255), laid(reg(ctx, 0, 0, 0)), false},
		{all, have(255), true}, {laid(just(7)), all, true}, {laid(justLen(7)), all, true}, {all, laid(just(7)), false}, {at, all, false}, {at, at, true},
		{laid(just(0)), laid(reg(maybeCell, 1, 0, 0)), true}, {laid(reg(cell, 1, 0, 0)), laid(reg(maybeCell, 1, 0, 0)), true}, {have(255), laid(reg(maybeCell, 1, 0, 0)), false},
	} {
		if state.In(withSlot(40, x.a), withSlot(40, x.b)) != x.in {
			t.Errorf("row %d: %v, %v", k, x.a, x.b)
		}
	}
}

func TestP12_3_Packet(t *testing.T) {
	for _, a := range packets {
		for _, b := range packets {
			if state.In(api.State{Packet: a}, api.State{Packet: b}) != (a >= b) {
				t.Error(a, b)
			}
		}
	}
}

// spoilt hands on states that may not be: for a register, a slot, how long the packet is.
func spoilt(f func(s api.State)) {
	for k, r := range badRegs() {
		f(withReg(k%11, r))
	}
	for k, x := range badSlots() {
		f(withSlot(k%64, x))
	}
	for _, n := range []int{-1, 65536, 1 << 32, math.MaxInt, math.MinInt} {
		f(api.State{Packet: n})
	}
}

func TestP12_3_MayNot(t *testing.T) {
	full := state.Begin()
	full.Packet = longest
	spoilt(func(s api.State) {
		if state.In(s, api.State{}) || state.In(api.State{}, s) || state.In(s, s) || state.In(s, full) || state.In(full, s) {
			t.Error(s.Regs, s.Packet)
		}
	})
}

func TestP12_3_RegsByTheChapter(t *testing.T) {
	good, n, in := goodRegs(), 0, 0
	for _, a := range good {
		for _, b := range good {
			want := toldRegIn(a, b)
			if state.In(withReg(n%11, a), withReg(n%11, b)) != want {
				t.Fatal(a, b)
			}
			if n++; want {
				in++
			}
		}
	}
	if in < 3*len(good) {
		t.Error("of ", n, " only ", in)
	}
}

func TestP12_3_SlotsByTheChapter(t *testing.T) {
	good, n := goodSlots(), 0
	for _, a := range good {
		for _, b := range good {
			if state.In(withSlot(n%64, a), withSlot(n%64, b)) != toldSlotIn(a, b) {
				t.Fatal(a, b)
			}
			n++
		}
	}
}

// Each register and each slot is asked, and only for itself.
func TestP12_3_EachPlace(t *testing.T) {
	for k := range 11 {
		for j := range 11 {
			if state.In(withReg(k, just(1)), withReg(j, just(1))) != (k == j) {
				t.Error(k, j)
			}
		}
	}
	for k := range 64 {
		for j := range 64 {
			if state.In(withSlot(k, have(1)), withSlot(j, have(1))) != (k == j) || state.In(withSlot(k, laid(just(1))), withSlot(j, laid(just(1)))) != (k == j) {
				t.Error(k, j)
			}
		}
	}
}

func TestP12_3_ByTheChapter(t *testing.T) {
	chance := rand.New(rand.NewSource(123))
	in := 0
	for range 6000 {
		a := anyState(chance)
		b := wider(chance, a)
		is := state.In(a, b)
		if is != toldIn(a, b) || state.In(b, a) != toldIn(b, a) {
			t.Fatal(a, b, is)
		}
		if is {
			in++
		}
	}
	if in < 600 || in > 5400 {
		t.Error("the chance is bad: ", in)
	}
}
