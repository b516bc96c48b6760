package state_test

import (
	"math"
	"math/rand"
	"testing"

	"stockade/api"
	"stockade/mem"
	"stockade/scalar"
	"stockade/state"
)

func TestP12_1_Begin(t *testing.T) {
	var want api.State
	want.Regs[1].Kind = ctx
	want.Regs[10] = api.Reg{Kind: frame, Lo: 512, Hi: 512}
	if state.Begin() != want {
		t.Error(state.Begin())
	}
	if !state.May(state.Begin()) || !state.May(api.State{}) {
		t.Error("Begin and the zero state may be")
	}
}

func TestP12_1_MayRows(t *testing.T) {
	for k, x := range []struct {
		r   api.Reg
		may bool
	}{
		{api.Reg{}, true}, {api.Reg{Kind: num}, true}, {api.Reg{Kind: ctx}, true}, {api.Reg{Kind: pkt}, true}, {api.Reg{Kind: frame}, true}, {api.Reg{Kind: ref}, true}, {api.Reg{Kind: cell}, true}, {api.Reg{Kind: maybeCell}, true}, {api.Reg{Kind: 8}, false},
		{reg(ctx, 0, 1, 0), false}, {reg(pkt, 0, 2, 1), false},
		{justLen(65535), true}, {justLen(65536), false}, {just(65536), true}, {lenOf(hollow()), true}, {numOf(hollow()), true},
		{numOf(both(4, 3, 4, 5)), false}, {numOf(both(4, 1, 4, 5)), true}, // settled it is V 4, M 1
		{reg(frame, 0, -far, far), true}, {reg(frame, 0, -far-1, far), false}, {reg(frame, 0, -far, far+1), false},
		{reg(ref, math.MaxInt, 0, 0), true}, {reg(ref, -1, 0, 0), false}, {reg(ref, 1, 0, 1), false}, {reg(maybeCell, 1, 0, 1), false}, {reg(cell, 1, 0, 1), true},
		{api.Reg{Kind: cell, Len: true}, false}, {api.Reg{Kind: none, Len: true}, false}, {api.Reg{Kind: pkt, S: scalar.Of(1)}, false}, {api.Reg{Kind: pkt, S: scalar.Of(0)}, true}, // which is all 0
	} {
		if state.May(withReg(2, x.r)) != x.may {
			t.Errorf("row %d: %v", k, x.r)
		}
	}
	for k, x := range []struct {
		x   api.Slot
		may bool
	}{
		{have(0), true}, {have(1), true}, {have(254), true}, {have(255), true}, {laid(just(0)), true}, {laid(reg(frame, 0, 512, 512)), true}, {laid(justLen(3)), true},
		{api.Slot{Have: 15, R: just(7)}, false}, {api.Slot{Have: 0, R: just(7)}, false}, {api.Slot{Have: 254, R: reg(ctx, 0, 0, 0)}, false},
		{laid(reg(none, 1, 0, 0)), false}, {api.Slot{R: reg(none, 0, 0, 1)}, false}, {laid(reg(pkt, 0, 1, 0)), false}, {laid(justLen(65536)), false},
	} {
		if state.May(withSlot(2, x.x)) != x.may {
			t.Errorf("row %d: %v", k, x.x)
		}
	}
}

func TestP12_1_EachPlace(t *testing.T) {
	for k := range 11 {
		for _, r := range goodRegs() {
			if !state.May(withReg(k, r)) {
				t.Fatal(k, r)
			}
		}
		for _, r := range badRegs() {
			if state.May(withReg(k, r)) {
				t.Fatal(k, r)
			}
		}
	}
	good, bad := goodSlots(), badSlots()
	for k := range 64 {
		for _, x := range good {
			if !state.May(withSlot(k, x)) {
				t.Fatal(k, x)
			}
		}
		for j := k % 7; j < len(bad); j += 7 {
			if state.May(withSlot(k, bad[j])) {
				t.Fatal(k, bad[j])
			}
		}
	}
}

func TestP12_1_Packet(t *testing.T) {
	for _, n := range packets {
		if !state.May(api.State{Packet: n}) {
			t.Error(n)
		}
	}
	for _, n := range []int{-1, -2, -65535, 65536, 65537, 1 << 32, math.MaxInt, math.MinInt} {
		if state.May(api.State{Packet: n}) {
			t.Error(n)
		}
	}
}

func TestP12_1_ByTheChapter(t *testing.T) {
	chance := rand.New(rand.NewSource(121))
	may := 0
	for range 200000 {
		r := anyReg(chance)
		for range chance.Intn(3) {
			r = pick(chance, spoils(r)...)
		}
		is := state.May(withReg(chance.Intn(11), r))
		if is != toldRegMay(r) {
			t.Fatal(r, is)
		}
		if is {
			may++
		}
		x := api.Slot{Have: pick(chance, 255, 255, 0, byte(chance.Intn(256))), R: r}
		if state.May(withSlot(chance.Intn(64), x)) != toldSlotMay(x) {
			t.Fatal(x)
		}
	}
	if may < 20000 || may > 180000 {
		t.Error("the chance is bad: ", may)
	}
	for range 2000 {
		if s := anyState(chance); !state.May(s) {
			t.Fatal(s)
		}
	}
}

// The type is as the chapter tells it: a conversion builds only where it is.
func TestP12_2_View(t *testing.T) {
	type view = struct {
		Regs   [11]api.Value
		Frame  mem.Frame
		Packet int
	}
	if !state.Holds(api.State{Packet: 60}, state.View(view{Packet: 60})) {
		t.Error("the view without anything")
	}
}

// example: the view of the chapter's example: r1 Ctx, r10 Frame with that Off, else None.
func example(off int64) state.View {
	var v state.View
	v.Regs[1] = address(ctx, 0)
	v.Regs[10] = address(frame, off)
	return v
}

func TestP12_2_Examples(t *testing.T) {
	if !state.Holds(state.Begin(), example(512)) || state.Holds(state.Begin(), example(504)) {
		t.Error("Begin")
	}
}

func TestP12_2_RegRows(t *testing.T) {
	for k, x := range []struct {
		r      api.Reg
		v      api.Value
		packet int
		holds  bool
	}{
		{api.Reg{}, api.Value{}, 0, true}, {api.Reg{}, number(7), 0, true}, {api.Reg{}, inCell(1, 1, 5), 0, true},
		{just(7), number(7), 0, true}, {just(7), number(8), 0, false}, {just(0), api.Value{}, 0, false}, {just(7), address(ctx, 0), 0, false}, {just(0), address(pkt, 0), 0, false},
		{numOf(both(1, 6, 3, 5)), number(3), 0, true}, {numOf(both(1, 6, 3, 5)), number(4), 0, false}, {numOf(both(1, 6, 3, 5)), number(7), 0, false},
		{lenOf(scalar.Below(8)), number(60), 60, true}, {lenOf(scalar.Below(8)), number(60), 61, false}, {lenOf(scalar.Below(8)), number(256), 256, false}, {lenOf(scalar.Below(16)), number(1<<32 + 60), 60, false}, {lenOf(scalar.Below(16)), number(65535), 65535, true}, {justLen(0), number(0), 0, true}, {justLen(0), number(0), 1, false}, {justLen(3), number(60), 60, false},
		{lenOf(hollow()), number(4), 4, false}, {lenOf(hollow()), number(3), 3, false},
		{reg(ctx, 0, 0, 0), address(ctx, 0), 0, true}, {reg(ctx, 0, 0, 0), address(ctx, 1), 0, false}, {reg(ctx, 0, 0, 0), address(ctx, -1), 0, false}, {reg(ctx, 0, 0, 0), address(pkt, 0), 0, false}, {reg(ctx, 0, 0, 0), api.Value{}, 0, false},
		{reg(pkt, 0, -1, 2), address(pkt, -1), 0, true}, {reg(pkt, 0, -1, 2), address(pkt, 2), 0, true}, {reg(pkt, 0, -1, 2), address(pkt, -2), 0, false}, {reg(pkt, 0, -1, 2), address(pkt, 3), 0, false}, {reg(pkt, 0, -1, 2), address(frame, 0), 0, false}, {reg(pkt, 0, 0, 0), number(0), 0, false}, {reg(pkt, 0, -far, far), address(pkt, math.MinInt64), 0, false},
		{reg(frame, 0, 504, 512), address(frame, 504), 0, true}, {reg(frame, 0, 504, 512), address(frame, 513), 0, false}, {reg(frame, 0, 504, 512), address(pkt, 504), 0, false},
		{reg(ref, 1, 0, 0), api.Value{Kind: ref, Map: 1}, 0, true}, {reg(ref, 1, 0, 0), api.Value{Kind: ref, Map: 2}, 0, false}, {reg(ref, 1, 0, 0), inCell(1, 1, 0), 0, false}, {reg(ref, 0, 0, 0), number(0), 0, false},
		{reg(cell, 1, 0, 4), inCell(1, 9, 4), 0, true}, {reg(cell, 1, 0, 4), inCell(1, top, 0), 0, true}, {reg(cell, 1, 0, 4), inCell(1, 9, 5), 0, false}, {reg(cell, 1, 0, 4), inCell(2, 9, 4), 0, false}, {reg(cell, 1, 0, 4), api.Value{Kind: ref, Map: 1}, 0, false}, {reg(cell, 0, 0, 0), number(0), 0, false},
		{reg(maybeCell, 1, 0, 0), inCell(1, 9, 0), 0, true}, {reg(maybeCell, 1, 0, 0), number(0), 0, true}, {reg(maybeCell, 1, 0, 0), number(1), 0, false}, {reg(maybeCell, 1, 0, 0), inCell(1, 9, 1), 0, false}, {reg(maybeCell, 1, 0, 0), inCell(1, 9, -1), 0, false}, {reg(maybeCell, 1, 0, 0), inCell(2, 9, 0), 0, false}, {reg(maybeCell, 1, 0, 0), api.Value{}, 0, false}, {reg(maybeCell, 1, 0, 0), api.Value{Kind: ref, Map: 1}, 0, false}, {reg(maybeCell, 0, 0, 0), address(pkt, 0), 0, false},
	} {
		v := state.View{Packet: x.packet}
		v.Regs[4] = x.v
		if state.Holds(withReg(4, x.r), v) != x.holds {
			t.Errorf("row %d: %v, %v, %d", k, x.r, x.v, x.packet)
		}
	}
}

// Of little numbers each one is asked.
func TestP12_2_LittleNumbers(t *testing.T) {
	for lo := range uint64(8) {
		for hi := lo; hi < 8; hi++ {
			for v := range uint64(8) {
				for m := range uint64(8) {
					s, ok := scalar.Settle(api.Tnum{V: v, M: m}, api.Span{Lo: lo, Hi: hi})
					for n := uint64(0); ok && n < 9; n++ {
						view := state.View{Packet: 3}
						view.Regs[2] = number(n)
						is := n&^m == v && lo <= n && n <= hi
						if state.Holds(withReg(2, numOf(s)), view) != is || state.Holds(withReg(2, lenOf(s)), view) != (is && n == 3) {
							t.Fatal(s, n)
						}
					}
				}
			}
		}
	}
}

func TestP12_2_SlotRows(t *testing.T) {
	at512 := mem.Slot{Have: 255, V: address(frame, 512)}
	for k, x := range []struct {
		k      api.Slot
		s      mem.Slot
		packet int
		holds  bool
	}{
		{have(0), mem.Slot{}, 0, true}, {have(0), bytesOf(7, 15), 0, true}, {have(0), at512, 0, true},
		{have(15), bytesOf(7, 15), 0, true}, {have(15), bytesOf(7, 31), 0, true}, {have(15), bytesOf(7, 255), 0, true}, {have(15), bytesOf(7, 7), 0, false}, {have(15), bytesOf(7, 240), 0, false}, {have(16), bytesOf(7, 15), 0, false}, {have(1), mem.Slot{}, 0, false},
		{have(1), at512, 0, false}, {have(255), at512, 0, false}, // an address is no bytes
		{laid(just(7)), bytesOf(7, 255), 0, true}, {laid(just(7)), bytesOf(7, 127), 0, false}, {laid(just(0)), mem.Slot{}, 0, false}, {laid(just(7)), bytesOf(8, 255), 0, false}, {laid(just(0x0102)), bytesOf(0x0102, 255), 0, true}, {laid(just(0x0201)), bytesOf(0x0102, 255), 0, false}, {laid(just(1 << 63)), bytesOf(1<<63, 255), 0, true}, {laid(just(0)), at512, 0, false}, {laid(numOf(scalar.All())), at512, 0, false},
		{laid(lenOf(scalar.Below(16))), bytesOf(60, 255), 60, true}, {laid(lenOf(scalar.Below(16))), bytesOf(60, 255), 61, false}, {laid(justLen(60)), bytesOf(61, 255), 61, false},
		{laid(reg(frame, 0, 512, 512)), at512, 0, true}, {laid(reg(frame, 0, 504, 511)), at512, 0, false}, {laid(reg(pkt, 0, 512, 512)), at512, 0, false}, {laid(reg(frame, 0, 0, 512)), bytesOf(512, 255), 0, false},
		{laid(reg(maybeCell, 1, 0, 0)), bytesOf(0, 255), 0, true}, {laid(reg(maybeCell, 1, 0, 0)), bytesOf(0, 127), 0, false}, {laid(reg(maybeCell, 1, 0, 0)), bytesOf(1, 255), 0, false}, {laid(reg(maybeCell, 1, 0, 0)), mem.Slot{Have: 255, V: inCell(1, 2, 0)}, 0, true}, {laid(reg(maybeCell, 1, 0, 0)), mem.Slot{Have: 255, V: inCell(2, 2, 0)}, 0, false},
		{laid(reg(ref, 2, 0, 0)), mem.Slot{Have: 255, V: api.Value{Kind: ref, Map: 2}}, 0, true}, {laid(reg(ctx, 0, 0, 0)), mem.Slot{Have: 255, V: address(ctx, 0)}, 0, true}, {laid(reg(ctx, 0, 0, 0)), mem.Slot{Have: 255, V: address(ctx, 8)}, 0, false},
	} {
		v := state.View{Packet: x.packet}
		v.Frame[9] = x.s
		if state.Holds(withSlot(9, x.k), v) != x.holds {
			t.Errorf("row %d: %v, %v, %d", k, x.k, x.s, x.packet)
		}
	}
}

func TestP12_2_Packet(t *testing.T) {
	for _, a := range packets {
		for _, b := range packets {
			if state.Holds(api.State{Packet: a}, state.View{Packet: b}) != (b >= a) {
				t.Error(a, b)
			}
		}
	}
}

func TestP12_2_MayNot(t *testing.T) {
	for _, n := range []int{-1, 65536, 1 << 32, math.MaxInt, math.MinInt} {
		if state.Holds(api.State{}, state.View{Packet: n}) || state.Holds(api.State{Packet: n}, state.View{Packet: n}) || state.Holds(api.State{Packet: n}, state.View{Packet: longest}) {
			t.Error(n)
		}
	}
	for k := range 11 {
		for _, x := range badValues() {
			var v state.View
			v.Regs[k] = x
			if state.Holds(api.State{}, v) {
				t.Error(k, x)
			}
		}
		for _, r := range badRegs() {
			var v state.View
			for _, x := range []api.Value{{}, number(0), number(5), {Kind: min(r.Kind, cell), Map: max(0, r.Map), Off: r.Lo}} {
				if v.Regs[k] = x; state.Holds(withReg(k, r), v) {
					t.Error(k, r, x)
				}
			}
		}
	}
	bad := badSlots()
	for k := range 64 {
		for _, x := range badFrameSlots() {
			var v state.View
			v.Frame[k] = x
			if state.Holds(api.State{}, v) {
				t.Error(k, x)
			}
		}
		for j := k % 61; j < len(bad); j += 61 {
			var v state.View
			v.Frame[k] = bytesOf(7, 255)
			if state.Holds(withSlot(k, bad[j]), v) || state.Holds(withSlot(k, bad[j]), state.View{}) {
				t.Error(k, bad[j])
			}
		}
	}
}

// Each register's knowledge against each value, in each register's place.
func TestP12_2_RegsByTheChapter(t *testing.T) {
	good, n := goodRegs(), 0
	for _, r := range good {
		for _, x := range values() {
			for _, packet := range []int{0, 3, 60, 65535} {
				v := state.View{Packet: packet}
				v.Regs[n%11] = x
				if state.Holds(withReg(n%11, r), v) != toldRegHolds(r, x, packet) {
					t.Fatal(r, x, packet)
				}
				n++
			}
		}
	}
}

func TestP12_2_SlotsByTheChapter(t *testing.T) {
	good, n := goodSlots(), 0
	for _, k := range good {
		lengths := []int{60}
		if k.R.Len {
			lengths = []int{0, 3, 60, 65535}
		}
		for _, x := range frameSlots() {
			for _, packet := range lengths {
				v := state.View{Packet: packet}
				v.Frame[n%64] = x
				if state.Holds(withSlot(n%64, k), v) != toldSlotHolds(k, x, packet) {
					t.Fatal(k, x, packet)
				}
				n++
			}
		}
	}
}

// Whole states: one that holds the view, and what becomes of that where one thing is another one.
func TestP12_2_ByTheChapter(t *testing.T) {
	chance := rand.New(rand.NewSource(122))
	held := 0
	for range 4000 {
		s := anyState(chance)
		v := viewOf(chance, s)
		is := state.Holds(s, v)
		if is != toldHolds(s, v) {
			t.Fatal(s, v)
		}
		if is {
			held++
		}
		switch chance.Intn(3) {
		case 0:
			v.Regs[chance.Intn(11)] = pick(chance, anyValue(chance), anyValue(chance), pick(chance, badValues()...))
		case 1:
			v.Frame[chance.Intn(64)] = pick(chance, anyFrameSlot(chance), anyFrameSlot(chance), pick(chance, badFrameSlots()...))
		default:
			v.Packet = pick(chance, s.Packet, s.Packet-1, -1, longest+1, chance.Intn(longest+1))
		}
		if state.Holds(s, v) != toldHolds(s, v) {
			t.Fatal(s, v)
		}
	}
	if held < 400 || held > 3600 {
		t.Error("the chance is bad: ", held)
	}
}
