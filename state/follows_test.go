package state_test

import (
	"math/rand"
	"testing"

	"stockade/api"
	"stockade/mem"
	"stockade/state"
)

// part: a state that tells something of one part only, and the views that are asked of it.
type part struct {
	s     api.State
	holds []bool
}

// regParts, slotParts: each of them, and which views it holds (the same ones for each).
func regParts() []part {
	var views []state.View
	for _, x := range values() {
		for _, packet := range []int{0, 3, 60, 65535} {
			v := state.View{Packet: packet}
			v.Regs[7] = x
			views = append(views, v)
		}
	}
	var l []part
	for _, r := range goodRegs() {
		l = append(l, partOf(withReg(7, r), views))
	}
	return l
}

func slotParts() []part {
	var views []state.View
	for _, x := range frameSlots() {
		for _, packet := range []int{3, 60} {
			v := state.View{Packet: packet}
			v.Frame[63] = x
			views = append(views, v)
		}
	}
	var l []part
	for _, x := range goodSlots() {
		l = append(l, partOf(withSlot(63, x), views))
	}
	return l
}

func packetParts() []part {
	var views []state.View
	for _, packet := range packets {
		views = append(views, state.View{Packet: packet})
	}
	var l []part
	for _, packet := range packets {
		l = append(l, partOf(api.State{Packet: packet}, views))
	}
	return l
}

func partOf(s api.State, views []state.View) part {
	x := part{s: s}
	for _, v := range views {
		x.holds = append(x.holds, state.Holds(s, v))
	}
	return x
}

// outside: the number of a view that a holds, and b does not; or -1.
func outside(a, b part) int {
	for k, is := range a.holds {
		if is && !b.holds[k] {
			return k
		}
	}
	return -1
}

func TestP12_5_In(t *testing.T) {
	for _, l := range [][]part{regParts(), slotParts(), packetParts()} {
		for _, a := range l {
			for _, b := range l {
				if k := outside(a, b); k >= 0 && state.In(a.s, b.s) {
					t.Fatal(a.s, b.s, k)
				}
			}
		}
	}
}

func TestP12_5_Join(t *testing.T) {
	chance := rand.New(rand.NewSource(125))
	for range 4000 {
		a, b := anyState(chance), anyState(chance)
		if chance.Intn(2) == 0 {
			b = wider(chance, a)
		}
		v := viewOf(chance, a)
		if !state.Holds(a, v) {
			continue
		}
		if !state.Holds(state.Join(a, b), v) || !state.Holds(state.Join(b, a), v) {
			t.Fatal(a, b, v)
		}
		if state.In(a, b) && !state.Holds(b, v) {
			t.Fatal(a, b, v)
		}
	}
}

// What is known of one part: the Join of each two holds what one of them holds.
func TestP12_5_JoinOfParts(t *testing.T) {
	for _, r := range goodRegs() {
		for j, x := range goodRegs() {
			for k, v := range values() {
				if k%5 != j%5 { // a part of them will do
					continue
				}
				view := state.View{Packet: 60}
				view.Regs[3] = v
				if state.Holds(withReg(3, r), view) && !state.Holds(state.Join(withReg(3, x), withReg(3, r)), view) {
					t.Fatal(r, x, v)
				}
			}
		}
	}
}

func TestP12_6_Order(t *testing.T) {
	for _, l := range [][]part{regParts(), slotParts(), packetParts()} {
		in := make([][]bool, len(l))
		for k, a := range l {
			for _, b := range l {
				in[k] = append(in[k], state.In(a.s, b.s))
			}
			if !in[k][k] {
				t.Fatal(a.s)
			}
		}
		for a := range l {
			for b := range l {
				for c := range l {
					if in[a][b] && in[b][c] && !in[a][c] {
						t.Fatal(l[a].s, l[b].s, l[c].s)
					}
				}
				leastOf(t, l, in, a, b)
			}
		}
	}
}

// leastOf: that both are in their Join, and it is in each in which both are.
func leastOf(t *testing.T, l []part, in [][]bool, a, b int) {
	t.Helper()
	join := state.Join(l[a].s, l[b].s)
	if !state.May(join) || !state.In(l[a].s, join) || !state.In(l[b].s, join) {
		t.Fatal(l[a].s, l[b].s, join)
	}
	for c := range l {
		if in[a][c] && in[b][c] && !state.In(join, l[c].s) {
			t.Fatal(l[a].s, l[b].s, join, l[c].s)
		}
	}
}

func TestP12_6_WholeStates(t *testing.T) {
	chance := rand.New(rand.NewSource(126))
	on, least := 0, 0
	for range 4000 {
		a, b := anyState(chance), anyState(chance)
		join := state.Join(a, b)
		if !state.In(a, a) || !state.May(join) || !state.In(a, join) || !state.In(b, join) {
			t.Fatal(a, b, join)
		}
		above := wider(chance, join)
		if state.In(a, above) && state.In(b, above) {
			if least++; !state.In(join, above) {
				t.Fatal(a, b, join, above)
			}
		}
		b = wider(chance, a)
		c := wider(chance, b)
		if state.In(a, b) && state.In(b, c) {
			if on++; !state.In(a, c) {
				t.Fatal(a, b, c)
			}
		}
	}
	if on < 400 || least < 400 {
		t.Error("the chance is bad: ", on, least)
	}
}

func TestP12_7_Begin(t *testing.T) {
	chance := rand.New(rand.NewSource(127))
	for range 2000 {
		v := state.View{Packet: chance.Intn(longest + 1)}
		for k := range v.Regs {
			v.Regs[k] = anyValue(chance)
		}
		for k := range v.Frame {
			v.Frame[k] = anyFrameSlot(chance)
		}
		v.Regs[1], v.Regs[10] = address(ctx, 0), address(frame, 512)
		if !state.Holds(state.Begin(), v) {
			t.Fatal(v)
		}
		for _, x := range append(values(), badValues()...) {
			v.Regs[1] = x
			if state.Holds(state.Begin(), v) != (x == address(ctx, 0)) {
				t.Fatal(v)
			}
			v.Regs[1], v.Regs[10] = address(ctx, 0), x
			if state.Holds(state.Begin(), v) != (x == address(frame, 512)) {
				t.Fatal(v)
			}
			v.Regs[10] = address(frame, 512)
		}
	}
}

func TestP12_7_NoView(t *testing.T) {
	for _, packet := range []int{-1, 65536} {
		v := example(512)
		if v.Packet = packet; state.Holds(state.Begin(), v) {
			t.Error(packet)
		}
	}
	v := example(512)
	v.Frame[0] = mem.Slot{B: [8]byte{1}}
	if state.Holds(state.Begin(), v) {
		t.Error("a frame that may not be")
	}
	v = example(512)
	v.Regs[5] = api.Value{Kind: maybeCell, Map: 1}
	if state.Holds(state.Begin(), v) {
		t.Error("a value that may not be")
	}
}
