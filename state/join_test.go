package state_test

import (
	"math"
	"math/rand"
	"testing"

	"stockade/api"
	"stockade/scalar"
	"stockade/state"
)

func TestP12_4_Examples(t *testing.T) {
	a, b, maybe1 := withReg(0, just(0)), withReg(0, reg(cell, 1, 0, 0)), withReg(0, reg(maybeCell, 1, 0, 0))
	if state.Join(a, b) != maybe1 || state.Join(maybe1, a) != maybe1 || state.Join(maybe1, withReg(0, just(1))) != (api.State{}) {
		t.Error("MaybeCell")
	}
	a, b = withReg(0, justLen(3)), withReg(0, justLen(5))
	a.Packet, b.Packet = 3, 5
	want := withReg(0, lenOf(both(1, 6, 3, 5)))
	want.Packet = 3
	if state.Join(a, b) != want || state.Join(b, a) != want {
		t.Error(state.Join(a, b), state.Join(b, a))
	}
}

func TestP12_4_RegRows(t *testing.T) {
	cell1, maybe1 := reg(cell, 1, 0, 0), reg(maybeCell, 1, 0, 0)
	for k, x := range []struct{ a, b, want api.Reg }{
		{api.Reg{}, api.Reg{}, api.Reg{}}, {api.Reg{}, just(1), api.Reg{}}, {api.Reg{}, maybe1, api.Reg{}}, {api.Reg{}, reg(ctx, 0, 0, 0), api.Reg{}},
		{just(4), just(6), numOf(both(4, 2, 4, 6))}, {just(3), numOf(both(4, 3, 4, 7)), numOf(both(0, 7, 3, 7))}, {just(0), just(top), numOf(scalar.All())}, {just(3), just(3), just(3)},
		{justLen(3), just(3), just(3)}, {justLen(3), justLen(3), justLen(3)}, {justLen(0), justLen(65535), lenOf(scalar.Below(16))}, {justLen(3), just(65536), numOf(both(0, 65539, 3, 65536))},
		{reg(ctx, 0, 0, 0), reg(ctx, 0, 0, 0), reg(ctx, 0, 0, 0)}, {reg(ctx, 0, 0, 0), reg(pkt, 0, 0, 0), api.Reg{}}, {reg(ctx, 0, 0, 0), just(0), api.Reg{}},
		{reg(pkt, 0, 1, 2), reg(pkt, 0, 4, 5), reg(pkt, 0, 1, 5)}, {reg(pkt, 0, 1, 5), reg(pkt, 0, 2, 4), reg(pkt, 0, 1, 5)}, {reg(pkt, 0, -far, -far), reg(pkt, 0, far, far), reg(pkt, 0, -far, far)}, {reg(pkt, 0, 1, 4), reg(pkt, 0, 2, 5), reg(pkt, 0, 1, 5)},
		{reg(frame, 0, 512, 512), reg(frame, 0, 504, 504), reg(frame, 0, 504, 512)}, {reg(frame, 0, 1, 2), reg(pkt, 0, 1, 2), api.Reg{}},
		{reg(cell, 1, 1, 2), reg(cell, 1, -1, 0), reg(cell, 1, -1, 2)}, {reg(cell, 1, 1, 2), reg(cell, 2, 1, 2), api.Reg{}}, {cell1, cell1, cell1}, {cell1, reg(cell, 1, 1, 1), reg(cell, 1, 0, 1)}, {cell1, reg(cell, 2, 0, 0), api.Reg{}}, {reg(cell, 0, 0, 0), cell1, api.Reg{}},
		{reg(ref, 1, 0, 0), reg(ref, 1, 0, 0), reg(ref, 1, 0, 0)}, {reg(ref, 1, 0, 0), reg(ref, 2, 0, 0), api.Reg{}}, {reg(ref, 1, 0, 0), cell1, api.Reg{}}, {reg(ref, 1, 0, 0), maybe1, api.Reg{}}, {reg(ref, 0, 0, 0), just(0), api.Reg{}},
		{maybe1, maybe1, maybe1}, {maybe1, reg(maybeCell, 2, 0, 0), api.Reg{}}, {reg(maybeCell, 0, 0, 0), maybe1, api.Reg{}},
		{cell1, maybe1, maybe1}, {reg(cell, 2, 0, 0), maybe1, api.Reg{}}, {reg(cell, 0, 0, 0), maybe1, api.Reg{}}, {cell1, reg(maybeCell, 0, 0, 0), api.Reg{}}, {reg(cell, 1, 0, 1), maybe1, api.Reg{}}, {reg(cell, 1, -1, 0), maybe1, api.Reg{}}, {reg(cell, 0, 0, 0), reg(maybeCell, 0, 0, 0), reg(maybeCell, 0, 0, 0)},
		{cell1, just(0), maybe1}, {cell1, justLen(0), maybe1}, {cell1, just(1), api.Reg{}}, {cell1, numOf(both(0, 1, 0, 1)), api.Reg{}}, {reg(cell, 1, 1, 1), just(0), api.Reg{}}, {reg(cell, 0, 0, 0), just(0), reg(maybeCell, 0, 0, 0)},
		{maybe1, just(0), maybe1}, {maybe1, justLen(0), maybe1}, {maybe1, just(1), api.Reg{}}, {maybe1, numOf(hollow()), api.Reg{}}, {reg(maybeCell, math.MaxInt, 0, 0), just(0), reg(maybeCell, math.MaxInt, 0, 0)},
		{maybe1, reg(ctx, 0, 0, 0), api.Reg{}}, {reg(pkt, 0, 0, 0), just(0), api.Reg{}}, {reg(pkt, 0, 0, 0), reg(cell, 0, 0, 0), api.Reg{}}, {reg(frame, 0, 0, 0), reg(maybeCell, 0, 0, 0), api.Reg{}},
	} {
		for _, two := range [][2]api.Reg{{x.a, x.b}, {x.b, x.a}} {
			if s := state.Join(withReg(4, two[0]), withReg(4, two[1])); s != withReg(4, x.want) {
				t.Errorf("row %d: %v", k, s.Regs[4])
			}
			s := state.Join(withSlot(4, laid(two[0])), withSlot(4, laid(two[1])))
			if x.want.Kind != none && s != withSlot(4, laid(x.want)) || x.want.Kind == none && s.Stack[4].R != (api.Reg{}) {
				t.Errorf("row %d, in a slot: %v", k, s.Stack[4])
			}
		}
	}
}

func TestP12_4_SlotRows(t *testing.T) {
	at := laid(reg(frame, 0, 512, 512))
	for k, x := range []struct{ a, b, want api.Slot }{
		{have(15), laid(just(7)), have(15)}, {have(15), at, have(0)}, // the chapter's
		{have(15), have(3), have(3)}, {have(15), have(60), have(12)}, {have(15), have(240), have(0)}, {have(255), have(255), have(255)},
		{have(255), laid(just(7)), have(255)}, {have(255), laid(numOf(scalar.All())), have(255)}, {have(0), laid(just(7)), have(0)}, {have(0), have(0), have(0)},
		{laid(just(4)), laid(just(6)), laid(numOf(both(4, 2, 4, 6)))}, {laid(justLen(3)), laid(just(3)), laid(just(3))},
		{laid(just(7)), at, have(0)}, {at, at, at}, {at, laid(reg(frame, 0, 504, 504)), laid(reg(frame, 0, 504, 512))}, {at, laid(reg(pkt, 0, 512, 512)), have(0)},
		{laid(just(0)), laid(reg(cell, 1, 0, 0)), laid(reg(maybeCell, 1, 0, 0))}, {laid(just(1)), laid(reg(cell, 1, 0, 0)), have(0)}, {have(255), laid(reg(maybeCell, 1, 0, 0)), have(0)},
	} {
		if s := state.Join(withSlot(40, x.a), withSlot(40, x.b)); s != withSlot(40, x.want) {
			t.Errorf("row %d: %v", k, s.Stack[40])
		}
		if s := state.Join(withSlot(40, x.b), withSlot(40, x.a)); s != withSlot(40, x.want) {
			t.Errorf("row %d, turned about: %v", k, s.Stack[40])
		}
	}
}

func TestP12_4_Packet(t *testing.T) {
	for _, a := range packets {
		for _, b := range packets {
			if state.Join(api.State{Packet: a}, api.State{Packet: b}) != (api.State{Packet: min(a, b)}) {
				t.Error(a, b)
			}
		}
	}
}

func TestP12_4_MayNot(t *testing.T) {
	full := state.Begin()
	full.Packet = longest
	spoilt(func(s api.State) {
		for _, x := range []api.State{state.Join(s, full), state.Join(full, s), state.Join(s, s), state.Join(api.State{}, s), state.Join(s, api.State{})} {
			if x != (api.State{}) {
				t.Error(s.Regs, s.Packet, x)
			}
		}
	})
}

func TestP12_4_RegsByTheChapter(t *testing.T) {
	good, n := goodRegs(), 0
	for _, a := range good {
		for _, b := range good {
			if s := state.Join(withReg(n%11, a), withReg(n%11, b)); s != withReg(n%11, toldRegJoin(a, b)) {
				t.Fatal(a, b, s.Regs)
			}
			n++
		}
	}
}

func TestP12_4_SlotsByTheChapter(t *testing.T) {
	good, n := goodSlots(), 0
	for _, a := range good {
		for _, b := range good {
			if s := state.Join(withSlot(n%64, a), withSlot(n%64, b)); s != withSlot(n%64, toldSlotJoin(a, b)) {
				t.Fatal(a, b, s.Stack[n%64])
			}
			n++
		}
	}
}

func TestP12_4_ByTheChapter(t *testing.T) {
	chance := rand.New(rand.NewSource(124))
	for range 4000 {
		a, b := anyState(chance), anyState(chance)
		for _, c := range []api.State{b, wider(chance, a)} {
			was := a
			if s := state.Join(a, c); s != toldJoin(a, c) || s != state.Join(c, a) || a != was {
				t.Fatal(a, c, s)
			}
		}
	}
}
