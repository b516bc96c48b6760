package flow_test

import (
	"math/rand"
	"testing"

	"stockade/api"
	"stockade/asm"
	"stockade/flow"
	"stockade/insn"
	"stockade/scalar"
	"stockade/state"
)

const (
	none      = 0
	num       = 1
	ctx       = 2
	pkt       = 3
	frame     = 4
	ref       = 5
	cell      = 6
	maybeCell = 7

	errArg    = 1
	trapEmpty = 40
	trapKind  = 41
	trapBound = 42
	trapAlign = 43
	trapWrite = 44
	trapWild  = 45

	farthest = 1 << 20
	longest  = 65535
	top      = 1<<64 - 1
)

func pick[T any](chance *rand.Rand, l ...T) T { return l[chance.Intn(len(l))] }

// four: the maps of most images here.
func four() []api.Map {
	return []api.Map{{Kind: 1, Key: 4, Value: 8, Cap: 2}, {Kind: 2, Key: 1, Value: 2, Cap: 2}, {Kind: 3, Key: 2, Value: 16, Cap: 2}, {Kind: 2, Key: 16, Value: 64, Cap: 3}}
}

// both: the scalar of a tnum's V and M and a span's ends.
func both(v, m, lo, hi uint64) api.Scalar {
	return api.Scalar{T: api.Tnum{V: v, M: m}, S: api.Span{Lo: lo, Hi: hi}}
}

// between: the scalar of the numbers between two ends, settled.
func between(lo, hi uint64) api.Scalar {
	s, is := scalar.Settle(api.Tnum{M: top}, api.Span{Lo: lo, Hi: hi})
	if !is {
		panic("lo is above hi")
	}
	return s
}

// Registers of each kind.
func reg(kind byte, of int, lo, hi int64) api.Reg {
	return api.Reg{Kind: kind, Map: of, Lo: lo, Hi: hi}
}
func numOf(s api.Scalar) api.Reg          { return api.Reg{Kind: num, S: s} }
func lenOf(s api.Scalar) api.Reg          { return api.Reg{Kind: num, S: s, Len: true} }
func just(n uint64) api.Reg               { return numOf(both(n, 0, n, n)) }
func pktAt(lo, hi int64) api.Reg          { return reg(pkt, 0, lo, hi) }
func frameAt(at int64) api.Reg            { return reg(frame, 0, at, at) }
func cellAt(of int, lo, hi int64) api.Reg { return reg(cell, of, lo, hi) }
func refTo(of int) api.Reg                { return reg(ref, of, 0, 0) }
func maybe(of int) api.Reg                { return reg(maybeCell, of, 0, 0) }
func context() api.Reg                    { return reg(ctx, 0, 0, 0) }
func anything() api.Reg                   { return numOf(both(0, top, 0, top)) }
func numBelow(bits int) api.Reg           { return numOf(both(0, 1<<bits-1, 0, 1<<bits-1)) }
func laid(r api.Reg) api.Slot             { return api.Slot{Have: 255, R: r} }
func have(bits byte) api.Slot             { return api.Slot{Have: bits} }

// kinds: a register of each kind but None.
func kinds() []api.Reg {
	return []api.Reg{just(8), anything(), lenOf(between(0, longest)), context(), pktAt(0, 0), pktAt(0, 3), frameAt(512), frameAt(0), refTo(1), cellAt(1, 0, 0), maybe(1)}
}

// with: the state, but for some registers.
func with(s api.State, regs map[int]api.Reg) api.State {
	for k, r := range regs {
		s.Regs[k] = r
	}
	return s
}

// withSlots: the state, but for some slots.
func withSlots(s api.State, slots map[int]api.Slot) api.State {
	for k, x := range slots {
		s.Stack[k] = x
	}
	return s
}

func withPacket(s api.State, packet int) api.State {
	s.Packet = packet
	return s
}

// ahead: what stands in front of the instruction of a row, and how many places it takes.
const (
	ahead       = "const r9, 1\nexit\n"
	aheadPlaces = 3
)

// line: an image in which the instruction of a line stands at aheadPlaces, with enough behind it to jump to.
func line(t *testing.T, text string) api.Image {
	t.Helper()
	code, at, e := asm.Parse(ahead + text + "\nexit\nexit\nexit\nexit\n")
	if e != 0 {
		t.Fatalf("line %d of %q: %d", at, text, e)
	}
	return api.Image{Maps: four(), Code: code}
}

// steps: what Step tells of the instruction of a line.
func steps(t *testing.T, text string, s api.State) ([]flow.Out, api.Errno) {
	t.Helper()
	l, e := flow.Step(line(t, text), aheadPlaces, s)
	if e != 0 && l != nil {
		t.Fatalf("%q: %v beside %d", text, l, e)
	}
	return l, e
}

// leads: that Step tells just these states, at so many places behind the instruction.
func leads(t *testing.T, text string, s api.State, want ...flow.Out) {
	t.Helper()
	l, e := steps(t, text, s)
	if e != 0 || len(l) != len(want) {
		t.Errorf("%q: %d states and %d, not %d", text, len(l), e, len(want))
		return
	}
	for k, x := range l {
		if x.At != aheadPlaces+want[k].At {
			t.Errorf("%q: the place %d, not %d", text, x.At, aheadPlaces+want[k].At)
		}
		differ(t, text, x.S, want[k].S)
	}
}

// differ: where two states are not the same, and that they are.
func differ(t *testing.T, text string, is, want api.State) {
	t.Helper()
	for k := range is.Regs {
		if is.Regs[k] != want.Regs[k] {
			t.Errorf("%q: r%d is %+v, not %+v", text, k, is.Regs[k], want.Regs[k])
		}
	}
	for k := range is.Stack {
		if is.Stack[k] != want.Stack[k] {
			t.Errorf("%q: the slot %d is %+v, not %+v", text, k, is.Stack[k], want.Stack[k])
		}
	}
	if is.Packet != want.Packet {
		t.Errorf("%q: Packet is %d, not %d", text, is.Packet, want.Packet)
	}
}

// refused: that Step tells that reason.
func refused(t *testing.T, text string, s api.State, want api.Errno) {
	t.Helper()
	if l, e := steps(t, text, s); e != want || len(l) > 0 {
		t.Errorf("%q: %d and %d states, not %d", text, e, len(l), want)
	}
}

// makes: that behind the instruction, which is one place long, just register r is another one.
func makes(t *testing.T, text string, s api.State, r int, is api.Reg) {
	t.Helper()
	leads(t, text, s, flow.Out{At: 1, S: with(s, map[int]api.Reg{r: is})})
}

// full: a state that tells something of all registers, of some slots, and of the packet.
func full() api.State {
	s := with(state.Begin(), map[int]api.Reg{0: just(1), 2: numBelow(8), 3: pktAt(2, 4), 4: cellAt(3, 1, 5), 5: maybe(2), 6: refTo(3), 7: lenOf(between(20, 90)), 8: frameAt(40), 9: just(9)})
	return withPacket(withSlots(s, map[int]api.Slot{0: laid(just(5)), 1: laid(context()), 2: have(15), 3: have(255), 63: have(240)}), 20)
}

func anyNumber(chance *rand.Rand) uint64 {
	edge := uint64(1) << chance.Intn(64)
	near := uint64(farthest)
	return pick(chance, 0, 1, 8, 60, 255, longest, longest+1, edge, edge-1, -edge, top, near, near+1, near-1, -near, -near-1, uint64(chance.Intn(20)), uint64(chance.Intn(20)), -uint64(chance.Intn(600)), uint64(chance.Intn(longest+1)), chance.Uint64())
}

// around: a scalar that holds n.
func around(chance *rand.Rand, n uint64) api.Scalar {
	switch chance.Intn(4) {
	case 0:
		return both(n, 0, n, n)
	case 1:
		return between(n-min(n, uint64(chance.Intn(9))), n+min(top-n, uint64(chance.Intn(9))))
	}
	m, lo, hi := anyNumber(chance), anyNumber(chance), anyNumber(chance)
	s, is := scalar.Settle(api.Tnum{V: n &^ m, M: m}, api.Span{Lo: min(n, lo), Hi: max(n, hi)})
	if !is {
		panic("n is held by both")
	}
	return s
}

// anyEnds: how far an address may lie, from the lesser to the greater end.
func anyEnds(chance *rand.Rand) (int64, int64) {
	one := func() int64 {
		return pick(chance, 0, 0, 0, 8, 504, 512, 496, int64(chance.Intn(70)), int64(chance.Intn(520)), -int64(chance.Intn(20)), farthest, -farthest, farthest-1, int64(chance.Intn(2*farthest+1)-farthest))
	}
	x := one()
	y := pick(chance, x, x, x+int64(chance.Intn(5)), one())
	x, y = min(x, y), max(x, y)
	return x, min(y, farthest)
}

// anyReg: one that may be, of an image with so many maps.
func anyReg(chance *rand.Rand, maps int) api.Reg {
	lo, hi := anyEnds(chance)
	kind := pick[byte](chance, none, num, num, num, ctx, pkt, pkt, frame, frame, frame, ref, cell, cell, maybeCell)
	if maps == 0 && kind >= ref {
		kind = num
	}
	switch kind {
	case num:
		s := around(chance, anyNumber(chance))
		return api.Reg{Kind: num, S: s, Len: s.S.Hi <= longest && chance.Intn(3) > 0}
	case pkt, frame:
		return reg(kind, 0, lo, hi)
	case ref, maybeCell:
		return reg(kind, chance.Intn(maps), 0, 0)
	case cell:
		return reg(kind, chance.Intn(maps), lo, hi)
	}
	return api.Reg{Kind: kind}
}

func anySlot(chance *rand.Rand, maps int) api.Slot {
	if r := anyReg(chance, maps); r.Kind != none && chance.Intn(2) > 0 {
		return laid(r)
	}
	return have(pick(chance, 0, 255, 255, 15, 240, byte(chance.Intn(256))))
}

// anyState: one that may be, of an image with so many maps.
func anyState(chance *rand.Rand, maps int) api.State {
	var s api.State
	for k := range s.Regs {
		s.Regs[k] = anyReg(chance, maps)
	}
	if chance.Intn(3) > 0 {
		s.Regs[10] = frameAt(512)
	}
	if maps > 0 && chance.Intn(2) > 0 {
		s.Regs[1] = refTo(chance.Intn(maps))
	}
	for k := range s.Stack {
		s.Stack[k] = pick(chance, have(255), laid(just(anyNumber(chance))), anySlot(chance, maps))
	}
	if chance.Intn(6) == 0 {
		s.Stack = [64]api.Slot{}
	}
	s.Packet = pick(chance, 0, 1, 8, 60, 64, longest-1, longest, chance.Intn(100), chance.Intn(longest+1))
	return s
}

func anyMap(chance *rand.Rand) api.Map {
	m := api.Map{Kind: 1 + chance.Intn(3), Key: 1 + chance.Intn(16), Value: 1 + chance.Intn(64), Cap: 1 + chance.Intn(4)}
	if m.Kind == 1 {
		m.Key = 4
	}
	return m
}

// anyOp: so that each class comes often.
func anyOp(chance *rand.Rand) byte {
	size, o := byte(chance.Intn(4))<<3, byte(chance.Intn(16))<<4
	return pick(chance, o|4, o|7, o|12, o|15, 0x07, 0x0f, 0x17, 0x1f, 0xbc, 0xd7, size|0x61, size|0x61, size|0x62, size|0x63, size|0x63, o|5, o|6, o|13, o|14, 0x15, 0x55, 0x05, 0x85, 0x85, 0x95, 0x18)
}

// anyInsn: an instruction that there is, of an image with so many maps; where it jumps to is not settled.
func anyInsn(chance *rand.Rand, maps int) api.Insn {
	for {
		i := api.Insn{Op: anyOp(chance), Dst: byte(chance.Intn(11)), Src: byte(chance.Intn(11)), Imm: int32(anyNumber(chance))}
		i.Off = int16(pick(chance, 0, 0, 4, 8, -8, -4, chance.Intn(20), -chance.Intn(70), -chance.Intn(520), chance.Intn(1<<16)-1<<15))
		switch {
		case i.Op == 0x18:
			i.Src = byte(chance.Intn(2))
			if i.Src == 1 && maps > 0 {
				i.Imm = int32(chance.Intn(maps))
			}
		case i.Op == 0x85:
			i.Imm = pick[int32](chance, 1, 1, 2, 2, 3, 5, 7)
		case i.Op == 0xd7:
			i.Imm = pick[int32](chance, 16, 32, 64)
		case i.Op&7 == 5 && chance.Intn(2) == 0:
			i.Imm = 0
		}
		if i, is := settled(i); is && !(i.Op == 0x18 && i.Src == 1 && maps == 0) {
			return i
		}
	}
}

// settled: with noughts in the fields that it may not have; false, if it is none all the same.
func settled(i api.Insn) (api.Insn, bool) {
	if _, e := insn.Of(i); e == api.ErrOp {
		return i, false
	}
	for bits := range 16 {
		x := i
		if bits&1 != 0 {
			x.Src = 0
		}
		if bits&2 != 0 {
			x.Dst = 0
		}
		if bits&4 != 0 {
			x.Imm = 0
		}
		if bits&8 != 0 {
			x.Off = 0
		}
		if _, e := insn.Of(x); e == 0 {
			return x, true
		}
	}
	return i, false
}

// imageOf: an image that is right, and the place at which it stands.
func imageOf(chance *rand.Rand, i api.Insn, maps []api.Map) (api.Image, int) {
	exit := api.Insn{Op: 0x95}
	at := chance.Intn(4)
	var code []api.Insn
	for range at {
		code = append(code, pick(chance, exit, api.Insn{Op: 0xb7, Dst: 3, Imm: 5}))
	}
	code = append(code, i)
	if i.Op == 0x18 {
		code = append(code, api.Insn{})
		if i.Src == 0 {
			code[at+1].Imm = int32(anyNumber(chance))
		}
	}
	for range 1 + chance.Intn(4) {
		code = append(code, exit)
	}
	if w, _ := insn.Of(i); w.Class == insn.Jump || w.Class == insn.Goto {
		code[at].Off = int16(chance.Intn(len(code)) - at - 1)
	}
	return api.Image{Maps: maps, Code: code}, at
}
