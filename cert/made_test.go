package cert_test

import (
	"math/rand"
	"slices"
	"testing"

	"stockade/api"
	"stockade/asm"
	"stockade/flow"
	"stockade/scalar"
	"stockade/state"
)

const (
	none      = 0
	num       = 1
	ctx       = 2
	pkt       = 3
	frame     = 4
	ref       = 5
	cell      = 6
	maybeCell = 7

	errArg    = 1
	errLong   = 3
	errShort  = 4
	errForm   = 5
	errNone   = 6
	trapEmpty = 40
	trapKind  = 41
	trapBound = 42
	trapAlign = 43
	trapWrite = 44
	trapWild  = 45

	most    = 1024 // points
	far     = 1 << 20
	longest = 65535
	top     = 1<<64 - 1
)

func pick[T any](chance *rand.Rand, l ...T) T { return l[chance.Intn(len(l))] }

// four: the maps of most images here.
func four() []api.Map {
	return []api.Map{{Kind: 1, Key: 4, Value: 8, Cap: 2}, {Kind: 2, Key: 1, Value: 2, Cap: 2}, {Kind: 3, Key: 2, Value: 16, Cap: 2}, {Kind: 2, Key: 16, Value: 64, Cap: 3}}
}

// image: of a program's text, with four maps.
func image(t *testing.T, text string) api.Image {
	t.Helper()
	code, line, e := asm.Parse(text)
	if e != 0 {
		t.Fatalf("line %d of %q: %d", line, text, e)
	}
	return api.Image{Maps: four(), Code: code}
}

// both: the scalar of a tnum's V and M and a span's ends, settled or not.
func both(v, m, lo, hi uint64) api.Scalar {
	return api.Scalar{T: api.Tnum{V: v, M: m}, S: api.Span{Lo: lo, Hi: hi}}
}

// Knowledge of each kind.
func reg(kind byte, of int, lo, hi int64) api.Reg {
	return api.Reg{Kind: kind, Map: of, Lo: lo, Hi: hi}
}
func numOf(s api.Scalar) api.Reg { return api.Reg{Kind: num, S: s} }
func lenOf(s api.Scalar) api.Reg { return api.Reg{Kind: num, S: s, Len: true} }
func just(n uint64) api.Reg      { return numOf(both(n, 0, n, n)) }
func below(bits int) api.Reg     { return numOf(both(0, 1<<bits-1, 0, 1<<bits-1)) }
func anything() api.Reg          { return numOf(both(0, top, 0, top)) }
func laid(r api.Reg) api.Slot    { return api.Slot{Have: 255, R: r} }
func have(bits byte) api.Slot    { return api.Slot{Have: bits} }

func out(at int, s api.State) flow.Out { return flow.Out{At: at, S: s} }

// with: the state, but for some registers.
func with(s api.State, regs map[int]api.Reg) api.State {
	for k, r := range regs {
		s.Regs[k] = r
	}
	return s
}

// withSlots: the state, but for some slots.
func withSlots(s api.State, slots map[int]api.Slot) api.State {
	for k, x := range slots {
		s.Stack[k] = x
	}
	return s
}

func withPacket(s api.State, packet int) api.State {
	s.Packet = packet
	return s
}

// begins: Begin at place 0.
func begins() flow.Out { return out(0, state.Begin()) }

// goodRegs: such as may be, of each kind, some of them at its edges.
func goodRegs() []api.Reg {
	return []api.Reg{
		{}, {Kind: ctx}, just(0), just(7), just(top), just(1 << 63), anything(), below(8), below(32), numOf(both(4, 2, 4, 6)), numOf(both(3, 8, 4, 10)), numOf(both(0, top, 1, top-1)), lenOf(both(0, 0, 0, 0)), lenOf(both(0, longest, 0, longest)), lenOf(both(0, longest, 60, longest)), lenOf(both(longest, 0, longest, longest)),
		reg(pkt, 0, 0, 0), reg(pkt, 0, -1, 2), reg(pkt, 0, -far, far), reg(pkt, 0, far, far), reg(frame, 0, 512, 512), reg(frame, 0, -far, -far), reg(frame, 0, 504, 512),
		reg(ref, 0, 0, 0), reg(ref, 3, 0, 0), reg(ref, 1<<63-1, 0, 0), reg(cell, 0, 0, 0), reg(cell, 2, -3, 9), reg(cell, 1<<32, -far, far), reg(maybeCell, 0, 0, 0), reg(maybeCell, 1, 0, 0), reg(maybeCell, 1<<40, 0, 0),
	}
}

// badRegs: such as may not be, but have nothing that their kind does not name.
func badRegs() []api.Reg {
	l := []api.Reg{
		numOf(both(1, 1, 0, 1)), numOf(both(0, 0, 1, 0)), numOf(both(5, 0, 0, top)), numOf(both(0, 7, 0, 3)), numOf(both(0, top, 5, 5)), lenOf(both(65536, 0, 65536, 65536)), lenOf(both(0, top, 0, top)), lenOf(both(0, 1<<17-1, 0, 65536)),
		reg(ref, -1, 0, 0), reg(ref, -1<<63, 0, 0), reg(maybeCell, -1, 0, 0), reg(cell, -1, 0, 0), reg(cell, -1<<63, -1, 1),
	}
	for _, kind := range []byte{pkt, frame, cell} {
		for _, x := range [][2]int64{{1, 0}, {0, -1}, {0, far + 1}, {-far - 1, 0}, {far + 1, far + 1}, {-far - 1, -far - 1}, {-1 << 63, 1<<63 - 1}, {1 << 32, 1 << 32}} {
			l = append(l, reg(kind, 0, x[0], x[1]))
		}
	}
	return l
}

// oddRegs: such as may not be, for they have what their kind does not name, or are of none.
func oddRegs() []api.Reg {
	return []api.Reg{
		{Len: true}, {Map: 1}, {Lo: 1}, {Hi: -1}, {S: both(1, 0, 1, 1)}, {Kind: num, Map: 1}, {Kind: num, Hi: 1}, {Kind: ctx, Len: true}, {Kind: ctx, Map: 1}, {Kind: ctx, Lo: -1}, {Kind: pkt, Map: 1}, {Kind: pkt, Len: true}, {Kind: frame, S: both(1, 0, 1, 1)}, {Kind: frame, Map: 2, Lo: 1, Hi: 1},
		{Kind: ref, Hi: 1}, {Kind: ref, Len: true}, {Kind: maybeCell, Lo: -1}, {Kind: maybeCell, S: both(0, 1, 0, 1)}, {Kind: cell, Len: true}, {Kind: cell, S: both(1, 0, 1, 1)}, {Kind: 8}, {Kind: 9, Map: 1}, {Kind: 128}, {Kind: 255},
	}
}

// spoilt: states that may not be, each with one thing that may not: in each of its places in turn.
func spoilt() []api.State {
	var l []api.State
	for k, r := range append(badRegs(), oddRegs()...) {
		l = append(l, with(state.Begin(), map[int]api.Reg{k % 11: r}), withSlots(state.Begin(), map[int]api.Slot{k % 64: laid(r)}))
	}
	for k, r := range goodRegs() {
		if r.Kind != none {
			l = append(l, withSlots(api.State{}, map[int]api.Slot{k % 64: {Have: byte(k * 7 % 255), R: r}}))
		}
	}
	for k := range 64 {
		l = append(l, withSlots(api.State{}, map[int]api.Slot{k: {Have: 254, R: just(1)}}))
	}
	for k := range 11 {
		l = append(l, with(api.State{}, map[int]api.Reg{k: {Kind: 8}}))
	}
	for _, n := range []int{-1, 65536, 1 << 32, -1 << 63, 1<<63 - 1} {
		l = append(l, withPacket(state.Begin(), n))
	}
	return l
}

func anyNumber(chance *rand.Rand) uint64 {
	edge := uint64(1) << chance.Intn(64)
	return pick(chance, 0, 1, 3, 60, 255, longest, longest+1, edge, edge-1, -edge, top, uint64(chance.Intn(20)), chance.Uint64())
}

// around: a scalar that holds n.
func around(chance *rand.Rand, n uint64) api.Scalar {
	m, lo, hi := anyNumber(chance), anyNumber(chance), anyNumber(chance)
	s, is := scalar.Settle(api.Tnum{V: n &^ m, M: m}, api.Span{Lo: min(n, lo), Hi: max(n, hi)})
	if !is {
		panic("n is held by both")
	}
	return s
}

// anyReg: one that may be.
func anyReg(chance *rand.Rand) api.Reg {
	lo := pick(chance, 0, 0, -1, far, -far, int64(chance.Intn(2*far+1)-far))
	hi := pick(chance, lo, lo, min(far, lo+chance.Int63n(9)))
	switch kind := byte(chance.Intn(9)); kind {
	case num:
		s := around(chance, anyNumber(chance))
		return api.Reg{Kind: num, S: s, Len: s.S.Hi <= longest && chance.Intn(2) == 0}
	case ctx:
		return api.Reg{Kind: ctx}
	case pkt, frame:
		return reg(kind, 0, lo, hi)
	case ref, maybeCell:
		return reg(kind, chance.Intn(5), 0, 0)
	case cell:
		return reg(kind, chance.Intn(5), lo, hi)
	}
	return pick(chance, goodRegs()...)
}

// anySlot: one that may be.
func anySlot(chance *rand.Rand) api.Slot {
	if r := anyReg(chance); r.Kind != none {
		return laid(r)
	}
	return have(pick(chance, 0, 255, 15, byte(chance.Intn(256))))
}

// anyState: one that may be, with something in some of its places.
func anyState(chance *rand.Rand) api.State {
	s := withPacket(api.State{}, pick(chance, 0, 1, 60, longest, chance.Intn(longest+1)))
	for range chance.Intn(20) {
		s.Regs[chance.Intn(11)] = anyReg(chance)
	}
	for range pick(chance, 0, chance.Intn(6), chance.Intn(150)) {
		s.Stack[chance.Intn(64)] = anySlot(chance)
	}
	return s
}

// looser: a register in which r is, and that is in fewer than r, if there is one at hand.
func looser(chance *rand.Rand, r api.Reg) api.Reg {
	switch {
	case chance.Intn(4) == 0:
		return api.Reg{}
	case r.Kind == num && r.S == scalar.Of(0) && chance.Intn(2) == 0:
		return reg(maybeCell, chance.Intn(4), 0, 0)
	case r.Kind == num:
		r.S, _ = scalar.Join(r.S, scalar.Of(anyNumber(chance)))
		r.Len = false
	case r.Kind == cell && r.Lo == 0 && r.Hi == 0 && chance.Intn(2) == 0:
		return reg(maybeCell, r.Map, 0, 0)
	case r.Kind == pkt || r.Kind == frame || r.Kind == cell:
		r.Lo, r.Hi = max(-far, r.Lo-chance.Int63n(2)), min(far, r.Hi+chance.Int63n(2))
	}
	return r
}

// loosened: a state in which s is, for it tells less of one thing, or the same of it in another way.
func loosened(chance *rand.Rand, s api.State) api.State {
	k := chance.Intn(64)
	switch x := s.Stack[k]; chance.Intn(4) {
	case 0:
		s.Packet = chance.Intn(s.Packet + 1)
	case 1:
		s.Regs[k%11] = looser(chance, s.Regs[k%11])
	case 2:
		switch {
		case x.R == anything():
			s.Stack[k] = have(255)
		case x == have(255):
			s.Stack[k] = laid(anything())
		case x.R.Kind == none:
			s.Stack[k] = have(x.Have & byte(chance.Intn(256)))
		default:
			s.Stack[k] = have(0)
		}
	default:
		for k := range s.Regs {
			if chance.Intn(3) == 0 {
				s.Regs[k] = api.Reg{}
			}
		}
	}
	return s
}

// otherwise: a state that is s, but for one thing; seldom one that may not be.
func otherwise(chance *rand.Rand, s api.State) api.State {
	switch chance.Intn(5) {
	case 0:
		s.Regs[chance.Intn(11)] = anyReg(chance)
	case 1:
		s.Stack[chance.Intn(64)] = anySlot(chance)
	case 2:
		s.Packet = pick(chance, s.Packet+1, longest, chance.Intn(100), 0)
	case 3:
		return loosened(chance, s)
	default:
		if chance.Intn(4) == 0 {
			return pick(chance, spoilt()...)
		}
	}
	return s
}

func shuffled(chance *rand.Rand, l []flow.Out) []flow.Out {
	l = slices.Clone(l)
	chance.Shuffle(len(l), func(i, j int) { l[i], l[j] = l[j], l[i] })
	return l
}
