package state_test

import (
	"math"
	"math/rand"
	"slices"

	"stockade/api"
	"stockade/mem"
	"stockade/scalar"
	"stockade/state"
)

const (
	none      = 0
	num       = 1
	ctx       = 2
	pkt       = 3
	frame     = 4
	ref       = 5
	cell      = 6
	maybeCell = 7

	far     = 1 << 20
	longest = 65535
	top     = 1<<64 - 1
)

var packets = []int{0, 1, 3, 5, 60, 255, 256, 65534, 65535}

func pick[T any](chance *rand.Rand, l ...T) T { return l[chance.Intn(len(l))] }

// both: the scalar of a tnum's V and M and a span's ends, settled or not.
func both(v, m, lo, hi uint64) api.Scalar {
	return api.Scalar{T: api.Tnum{V: v, M: m}, S: api.Span{Lo: lo, Hi: hi}}
}

// Of what hollow may be it holds nothing: 3 and 11 lie on both sides of 4 to 10.
func hollow() api.Scalar { return both(3, 8, 4, 10) }

// Registers of each kind.
func reg(kind byte, of int, lo, hi int64) api.Reg {
	return api.Reg{Kind: kind, Map: of, Lo: lo, Hi: hi}
}
func numOf(s api.Scalar) api.Reg        { return api.Reg{Kind: num, S: s} }
func lenOf(s api.Scalar) api.Reg        { return api.Reg{Kind: num, S: s, Len: true} }
func just(n uint64) api.Reg             { return numOf(both(n, 0, n, n)) }
func justLen(n uint64) api.Reg          { return lenOf(both(n, 0, n, n)) }
func laid(r api.Reg) api.Slot           { return api.Slot{Have: 255, R: r} }
func have(bits byte) api.Slot           { return api.Slot{Have: bits} }
func number(n uint64) api.Value         { return api.Value{Kind: num, N: n} }
func address(k byte, o int64) api.Value { return api.Value{Kind: k, Off: o} }
func inCell(of int, n uint64, off int64) api.Value {
	return api.Value{Kind: cell, Map: of, N: n, Off: off}
}

// scalars that may be.
func scalars() []api.Scalar {
	l := []api.Scalar{
		both(0, 1, 0, 1), both(1, 6, 3, 5), both(0, 7, 0, 5), both(4, 3, 4, 7), both(2, 1, 2, 3), hollow(),
		both(0, 255, 0, 255), both(0, 255, 1, 255), both(0, 65535, 0, 65535), both(0, 65535, 60, 65535), both(0, 1<<17-1, 0, 65536), both(1<<16, 7, 1<<16, 1<<16+7),
		both(0, top, 0, top), both(0, top, 1, top), both(0, top, 0, top-1), both(0, top-1, 0, top-1), both(1<<63, 1<<63-1, 1<<63, top),
	}
	for _, n := range []uint64{0, 1, 3, 5, 60, 65534, 65535, 65536, 65536 + 3, 1<<32 + 3, 1 << 63, top} {
		l = append(l, both(n, 0, n, n))
	}
	return l
}

// goodRegs: such as may be.
func goodRegs() []api.Reg {
	l := []api.Reg{{}, {Kind: ctx}}
	for _, s := range scalars() {
		l = append(l, numOf(s))
		if s.S.Hi <= longest {
			l = append(l, lenOf(s))
		}
	}
	ends := [][2]int64{{0, 0}, {0, 8}, {-1, 2}, {1, 2}, {1, 1}, {-8, 0}, {-far, far}, {far, far}, {-far, -far}, {-far, 0}, {0, far}, {504, 512}, {512, 512}}
	for _, x := range ends {
		l = append(l, reg(pkt, 0, x[0], x[1]), reg(frame, 0, x[0], x[1]), reg(cell, 1, x[0], x[1]))
	}
	for _, of := range []int{0, 1, 2, 3, 4, math.MaxInt} {
		l = append(l, reg(ref, of, 0, 0), reg(maybeCell, of, 0, 0), reg(cell, of, 0, 0), reg(cell, of, -1, 2))
	}
	return l
}

// badRegs: such as may not be.
func badRegs() []api.Reg {
	l := []api.Reg{
		{Kind: num, S: both(1, 1, 0, 1)}, {Kind: num, S: both(0, 0, 1, 0)}, {Kind: num, S: both(0, top, 5, 5)}, {Kind: num, S: both(0, 7, 0, 3)}, {Kind: num, S: both(4, 3, 0, 5)}, {Kind: num, S: both(1, 0, 2, 3)}, {Kind: num, Len: true, S: both(0, 7, 0, 3)}, {Kind: num, S: both(5, 0, 0, top)},
		justLen(65536), justLen(1 << 32), justLen(top), lenOf(both(0, 1<<17-1, 0, 65536)), lenOf(both(0, top, 0, top)), lenOf(both(0, 1<<63-1, 0, 1<<63-1)),
		reg(ref, -1, 0, 0), reg(ref, math.MinInt, 0, 0), reg(maybeCell, -1, 0, 0), reg(maybeCell, math.MinInt, 0, 0), reg(cell, -1, 0, 0), reg(cell, math.MinInt, 0, 0), reg(cell, -1, -1, 2),
	}
	for _, kind := range []byte{pkt, frame, cell} {
		for _, x := range [][2]int64{{1, 0}, {0, -1}, {2, 1}, {far, -far}, {0, far + 1}, {-far - 1, 0}, {far + 1, far + 1}, {-far - 1, -far - 1}, {math.MinInt64, math.MaxInt64}, {math.MinInt64, 0}, {0, math.MaxInt64}, {math.MaxInt64, math.MinInt64}, {math.MinInt64, math.MinInt64}, {math.MaxInt64, math.MaxInt64}, {1 << 32, 1<<32 + 1}, {0, 1 << 32}} {
			l = append(l, reg(kind, 0, x[0], x[1]))
		}
	}
	for kind := byte(0); kind < 8; kind++ {
		for _, spoilt := range spoils(api.Reg{Kind: kind}) {
			if !toldRegMay(spoilt) {
				l = append(l, spoilt)
			}
		}
	}
	for _, kind := range []byte{8, 9, 15, 16, 127, 128, 129, 255} {
		l = append(l, api.Reg{Kind: kind}, api.Reg{Kind: kind, Map: 1}, api.Reg{Kind: kind, Hi: 1}, api.Reg{Kind: kind, S: both(1, 0, 1, 1)})
	}
	return l
}

// spoils: what r may become, field by field.
func spoils(r api.Reg) []api.Reg {
	l := slices.Repeat([]api.Reg{r}, 13)
	l[0].Kind++
	l[1].Len = !r.Len
	l[2].Map++
	l[3].Map = -1
	l[4].S.T.V++
	l[5].S.T.M++
	l[6].S.S.Lo++
	l[7].S.S.Hi++
	l[8].S = both(1, 0, 1, 1)
	l[9].Lo--
	l[10].Lo++
	l[11].Hi++
	l[12].Hi--
	return append(l, api.Reg{Kind: r.Kind, Len: r.Len, Map: r.Map, S: r.S, Lo: r.Lo + 1, Hi: r.Hi + 1}, api.Reg{Kind: r.Kind, Len: r.Len, Map: r.Map, S: both(0, 1, 0, 1), Lo: r.Lo, Hi: r.Hi})
}

// goodSlots: such as may be.
func goodSlots() []api.Slot {
	var l []api.Slot
	for _, bits := range haves() {
		l = append(l, have(bits))
	}
	for _, r := range goodRegs() {
		if r.Kind != none {
			l = append(l, laid(r))
		}
	}
	return l
}

// badSlots: such as may not be.
func badSlots() []api.Slot {
	var l []api.Slot
	for _, bits := range haves() {
		for _, r := range goodRegs() {
			if r.Kind != none && bits != 255 {
				l = append(l, api.Slot{Have: bits, R: r})
			}
		}
		for _, r := range badRegs() {
			l = append(l, api.Slot{Have: bits, R: r})
		}
	}
	return l
}

func haves() []byte { return []byte{0, 1, 2, 3, 5, 15, 16, 85, 127, 128, 170, 240, 254, 255} }

// values that may be.
func values() []api.Value {
	l := []api.Value{{}}
	for _, n := range []uint64{0, 1, 2, 3, 4, 5, 6, 7, 8, 11, 60, 254, 255, 256, 65534, 65535, 65536, 65536 + 3, 65536 + 60, 1<<32 - 1, 1 << 32, 1<<32 + 3, 1<<32 + 60, 1<<63 - 1, 1 << 63, top - 1, top} {
		l = append(l, number(n))
	}
	for _, off := range []int64{0, 1, -1, 2, 3, -2, 8, 9, -8, -9, 503, 504, 511, 512, 513, far, far + 1, -far, -far - 1, 1 << 32, math.MaxInt64, math.MinInt64} {
		l = append(l, address(ctx, off), address(pkt, off), address(frame, off), inCell(1, 1, off), inCell(2, 5, off))
	}
	for _, of := range []int{0, 1, 2, 3, 4, math.MaxInt} {
		l = append(l, api.Value{Kind: ref, Map: of}, inCell(of, 1, 0), inCell(of, 7, 0), inCell(of, top, 0), inCell(of, 1, 1))
	}
	return l
}

// badValues: such as may not be.
func badValues() []api.Value {
	return []api.Value{
		{Map: 1}, {N: 1}, {Off: 1}, {Kind: num, Map: 1}, {Kind: num, N: 5, Off: 1}, {Kind: ctx, N: 1}, {Kind: ctx, Map: 1}, {Kind: pkt, N: 1}, {Kind: frame, Off: 512, N: 1}, {Kind: frame, Off: 512, Map: 1},
		{Kind: ref, Map: -1}, {Kind: ref, N: 1}, {Kind: ref, Off: 1}, {Kind: cell}, {Kind: cell, Map: 1}, {Kind: cell, Map: -1, N: 1}, {Kind: maybeCell}, {Kind: maybeCell, N: 1}, {Kind: maybeCell, Map: 1, N: 1}, {Kind: 8}, {Kind: 255, N: 1},
	}
}

// bytesOf: the slot of a frame that holds the bytes of n, as far as the bits say.
func bytesOf(n uint64, bits byte) mem.Slot {
	s := mem.Slot{Have: bits}
	for j := range s.B {
		if bits>>j&1 == 1 {
			s.B[j] = byte(n >> (8 * j))
		}
	}
	return s
}

// frameSlots: such as a frame may have.
func frameSlots() []mem.Slot {
	var l []mem.Slot
	for _, v := range values() {
		switch v.Kind {
		case none:
		case num:
			for _, bits := range []byte{255, 254, 127, 15, 3} {
				l = append(l, bytesOf(v.N, bits))
			}
		default:
			l = append(l, mem.Slot{Have: 255, V: v})
		}
	}
	for _, bits := range haves() {
		l = append(l, bytesOf(0, bits), bytesOf(top, bits), bytesOf(0x0807060504030201, bits))
	}
	return l
}

// badFrameSlots: such as no frame may have.
func badFrameSlots() []mem.Slot {
	l := []mem.Slot{{B: [8]byte{1}}, {Have: 127, B: [8]byte{7: 1}}, {Have: 254, B: [8]byte{1, 1}}, {V: address(ctx, 0)}, {Have: 127, V: address(ctx, 0)}, {Have: 255, V: address(ctx, 0), B: [8]byte{1}}, {Have: 255, V: number(0)}, {Have: 255, V: number(7)}}
	for _, v := range badValues() {
		l = append(l, mem.Slot{Have: 255, V: v})
	}
	return l
}

// What follows says the chapter's words, one by one, apart from how the package goes about them. It leans on chapter 11's calls.

// named: what a kind names: S and Len, Map, Lo and Hi; and whether there is such a kind.
func named(kind byte) (s, of, ends, is bool) {
	switch kind {
	case none, ctx:
		return false, false, false, true
	case num:
		return true, false, false, true
	case pkt, frame:
		return false, false, true, true
	case ref, maybeCell:
		return false, true, false, true
	case cell:
		return false, true, true, true
	}
	return false, false, false, false
}

func toldRegMay(r api.Reg) bool {
	s, of, ends, is := named(r.Kind)
	switch {
	case !is, !s && (r.Len || r.S != api.Scalar{}), !of && r.Map != 0, !ends && (r.Lo != 0 || r.Hi != 0):
		return false
	case s && (!scalar.May(r.S) || r.Len && r.S.S.Hi > longest):
		return false
	case of && r.Map < 0:
		return false
	case ends && (r.Lo > r.Hi || r.Lo < -far || r.Lo > far || r.Hi < -far || r.Hi > far):
		return false
	}
	return true
}

func toldSlotMay(s api.Slot) bool {
	if s.R.Kind == none {
		return s.R == api.Reg{}
	}
	return toldRegMay(s.R) && s.Have == 255
}

func toldMay(s api.State) bool {
	for _, r := range s.Regs {
		if !toldRegMay(r) {
			return false
		}
	}
	for _, x := range s.Stack {
		if !toldSlotMay(x) {
			return false
		}
	}
	return s.Packet >= 0 && s.Packet <= longest
}

func toldRegHolds(r api.Reg, v api.Value, packet int) bool {
	between := r.Lo <= v.Off && v.Off <= r.Hi
	switch r.Kind {
	case none:
		return true
	case num:
		return v.Kind == num && scalar.Has(r.S, v.N) && (!r.Len || v.N == uint64(packet))
	case ctx:
		return v.Kind == ctx && v.Off == 0
	case pkt:
		return v.Kind == pkt && between
	case frame:
		return v.Kind == frame && between
	case ref:
		return v.Kind == ref && v.Map == r.Map
	case cell:
		return v.Kind == cell && v.Map == r.Map && between
	}
	return v.Kind == cell && v.Map == r.Map && v.Off == 0 || v.Kind == num && v.N == 0
}

func toldSlotHolds(k api.Slot, s mem.Slot, packet int) bool {
	isBytes := s.V.Kind == none
	if k.R.Kind == none {
		with := true
		for j := range 8 {
			with = with && (k.Have>>j&1 == 0 || s.Have>>j&1 == 1)
		}
		return k.Have == 0 || isBytes && with
	}
	n := uint64(0)
	for j := range 8 {
		n += uint64(s.B[j]) << (8 * j)
	}
	return !isBytes && toldRegHolds(k.R, s.V, packet) || isBytes && s.Have == 255 && toldRegHolds(k.R, number(n), packet)
}

func toldHolds(s api.State, v state.View) bool {
	if !toldMay(s) || v.Packet < 0 || v.Packet > longest || v.Packet < s.Packet || !mem.Right(v.Frame) {
		return false
	}
	for k, r := range s.Regs {
		if !mem.May(v.Regs[k]) || !toldRegHolds(r, v.Regs[k], v.Packet) {
			return false
		}
	}
	for k, x := range s.Stack {
		if !toldSlotHolds(x, v.Frame[k], v.Packet) {
			return false
		}
	}
	return true
}

// is0: whether it is a Num whose S holds 0 alone.
func is0(r api.Reg) bool { return r.Kind == num && r.S == scalar.Of(0) }

// atStart: whether it is a Cell with Lo and Hi 0.
func atStart(r api.Reg) bool { return r.Kind == cell && r.Lo == 0 && r.Hi == 0 }

func toldRegIn(a, b api.Reg) bool {
	if b.Kind == none || b.Kind == maybeCell && (atStart(a) && a.Map == b.Map || is0(a)) {
		return true
	}
	if a.Kind != b.Kind {
		return false
	}
	lies := b.Lo <= a.Lo && a.Lo <= b.Hi && b.Lo <= a.Hi && a.Hi <= b.Hi
	switch a.Kind {
	case num:
		return scalar.In(a.S, b.S) && (!b.Len || a.Len)
	case pkt, frame:
		return lies
	case cell:
		return lies && a.Map == b.Map
	case ref, maybeCell:
		return a.Map == b.Map
	}
	return true
}

// toldSure: of which bits of Have a slot is sure.
func toldSure(s api.Slot) [8]bool {
	var l [8]bool
	for j := range l {
		l[j] = s.R.Kind == num || s.R.Kind == none && s.Have>>j&1 == 1
	}
	return l
}

func toldSlotIn(a, b api.Slot) bool {
	if b.R.Kind == none {
		for j, is := range toldSure(a) {
			if b.Have>>j&1 == 1 && !is {
				return false
			}
		}
		return true
	}
	if a.R.Kind != none {
		return toldRegIn(a.R, b.R)
	}
	return a.Have == 255 && b.R.Kind == num && !b.R.Len && b.R.S == scalar.All()
}

func toldIn(a, b api.State) bool {
	if !toldMay(a) || !toldMay(b) || a.Packet < b.Packet {
		return false
	}
	for k := range a.Regs {
		if !toldRegIn(a.Regs[k], b.Regs[k]) {
			return false
		}
	}
	for k := range a.Stack {
		if !toldSlotIn(a.Stack[k], b.Stack[k]) {
			return false
		}
	}
	return true
}

func toldRegJoin(a, b api.Reg) api.Reg {
	out := a
	switch {
	case a.Kind == b.Kind && a.Kind == num:
		out.S, _ = scalar.Join(a.S, b.S)
		out.Len = a.Len && b.Len
		return out
	case a.Kind == b.Kind && (a.Kind == pkt || a.Kind == frame || a.Kind == cell && a.Map == b.Map):
		if b.Lo < a.Lo {
			out.Lo = b.Lo
		}
		if b.Hi > a.Hi {
			out.Hi = b.Hi
		}
		return out
	case a.Kind == b.Kind && (a.Kind == ctx || (a.Kind == ref || a.Kind == maybeCell) && a.Map == b.Map):
		return a
	}
	three := func(r api.Reg) bool { return atStart(r) || r.Kind == maybeCell || is0(r) }
	switch {
	case a.Kind == b.Kind || !three(a) || !three(b):
		return api.Reg{}
	case a.Kind == num:
		return api.Reg{Kind: maybeCell, Map: b.Map}
	case b.Kind == num || a.Map == b.Map:
		return api.Reg{Kind: maybeCell, Map: a.Map}
	}
	return api.Reg{}
}

func toldSlotJoin(a, b api.Slot) api.Slot {
	if a.R.Kind != none && b.R.Kind != none {
		if r := toldRegJoin(a.R, b.R); r.Kind != none {
			return laid(r)
		}
	}
	var out api.Slot
	ofA, ofB := toldSure(a), toldSure(b)
	for j := range 8 {
		if ofA[j] && ofB[j] {
			out.Have |= 1 << j
		}
	}
	return out
}

func toldJoin(a, b api.State) api.State {
	var out api.State
	if !toldMay(a) || !toldMay(b) {
		return out
	}
	for k := range out.Regs {
		out.Regs[k] = toldRegJoin(a.Regs[k], b.Regs[k])
	}
	for k := range out.Stack {
		out.Stack[k] = toldSlotJoin(a.Stack[k], b.Stack[k])
	}
	out.Packet = b.Packet
	if a.Packet < b.Packet {
		out.Packet = a.Packet
	}
	return out
}

// withReg, withSlot: the zero state, but for one register or slot.
func withReg(at int, r api.Reg) api.State {
	var s api.State
	s.Regs[at] = r
	return s
}

func withSlot(at int, x api.Slot) api.State {
	var s api.State
	s.Stack[at] = x
	return s
}

func anyNumber(chance *rand.Rand) uint64 {
	edge := uint64(1) << chance.Intn(64)
	return pick(chance, 0, 1, 3, 60, 255, 65535, 65536, edge, edge-1, top, uint64(chance.Intn(20)), uint64(chance.Intn(65536)), chance.Uint64())
}

func anyScalar(chance *rand.Rand) api.Scalar {
	if chance.Intn(3) == 0 {
		return pick(chance, scalars()...)
	}
	n, m, lo, hi := anyNumber(chance), anyNumber(chance), anyNumber(chance), anyNumber(chance)
	s, ok := scalar.Settle(api.Tnum{V: n &^ m, M: m}, api.Span{Lo: min(n, lo), Hi: max(n, hi)})
	if !ok {
		panic("n is held by both")
	}
	return s
}

// anyEnds: how far an address may lie, from the lesser to the greater end.
func anyEnds(chance *rand.Rand) (int64, int64) {
	one := func() int64 {
		return pick(chance, 0, 0, 0, 1, -1, 8, 512, far, -far, far-1, int64(chance.Intn(2*far+1)-far))
	}
	x := one()
	y := pick(chance, x, one())
	return min(x, y), max(x, y)
}

// anyReg: one that may be.
func anyReg(chance *rand.Rand) api.Reg {
	r := api.Reg{Kind: byte(chance.Intn(8))}
	s, of, ends, _ := named(r.Kind)
	if s {
		r.S = anyScalar(chance)
		r.Len = r.S.S.Hi <= longest && chance.Intn(2) == 0
	}
	if of {
		r.Map = pick(chance, 0, 1, 1, 2, 3)
	}
	if ends {
		r.Lo, r.Hi = anyEnds(chance)
	}
	return r
}

// anySlot: one that may be.
func anySlot(chance *rand.Rand) api.Slot {
	if r := anyReg(chance); r.Kind != none && chance.Intn(3) > 0 {
		return laid(r)
	}
	return have(pick(chance, 0, 255, 15, byte(chance.Intn(256))))
}

// anyState: one that may be.
func anyState(chance *rand.Rand) api.State {
	var s api.State
	for k := range s.Regs {
		s.Regs[k] = anyReg(chance)
	}
	for range chance.Intn(100) {
		s.Stack[chance.Intn(64)] = anySlot(chance)
	}
	s.Packet = pick(chance, pick(chance, packets...), chance.Intn(longest+1))
	return s
}

// wider: a state that may be, in which a is, for the most part.
func wider(chance *rand.Rand, a api.State) api.State {
	b := a
	for k := range b.Regs {
		b.Regs[k] = pick(chance, a.Regs[k], toldRegJoin(a.Regs[k], anyReg(chance)), widened(a.Regs[k]))
	}
	for k := range b.Stack {
		b.Stack[k] = pick(chance, a.Stack[k], toldSlotJoin(a.Stack[k], anySlot(chance)), widenedSlot(a.Stack[k]))
	}
	b.Packet = chance.Intn(a.Packet + 1)
	if chance.Intn(3) == 0 { // one of them is another one
		b.Regs[chance.Intn(11)] = anyReg(chance)
	}
	if chance.Intn(3) == 0 {
		b.Stack[chance.Intn(64)] = anySlot(chance)
	}
	return b
}

// widened: one in which r is, other than what a join tells.
func widened(r api.Reg) api.Reg {
	switch {
	case is0(r):
		return reg(maybeCell, 1, 0, 0)
	case atStart(r):
		return reg(maybeCell, r.Map, 0, 0)
	case r.Kind == num:
		r.Len = false
	}
	return r
}

func widenedSlot(s api.Slot) api.Slot {
	switch {
	case s.R.Kind == none && s.Have == 255:
		return laid(numOf(scalar.All()))
	case s.R.Kind == none:
		return s
	}
	return laid(widened(s.R))
}

// anyValue: one that may be.
func anyValue(chance *rand.Rand) api.Value {
	n := anyNumber(chance)
	return pick(chance, api.Value{}, number(n), number(n), number(0), address(ctx, 0), address(pkt, int64(n)), address(frame, 512), api.Value{Kind: ref, Map: chance.Intn(4)}, inCell(chance.Intn(4), max(1, n), 0), inCell(1, max(1, n), chance.Int63()-1<<62))
}

// anyFrameSlot: one that a frame may have.
func anyFrameSlot(chance *rand.Rand) mem.Slot {
	if v := anyValue(chance); v.Kind > num {
		return mem.Slot{Have: 255, V: v}
	}
	return bytesOf(anyNumber(chance), pick(chance, 0, 255, 15, byte(chance.Intn(256))))
}

// heldBy: a value that r holds, if one is found, of a packet of that length; any, if r tells nothing.
func heldBy(chance *rand.Rand, r api.Reg, packet int) api.Value {
	off := r.Lo + chance.Int63n(r.Hi-r.Lo+1)
	switch r.Kind {
	case none:
		return anyValue(chance)
	case num:
		n := r.S.T.V | anyNumber(chance)&r.S.T.M
		switch {
		case r.Len:
			n = uint64(packet)
		case !scalar.Has(r.S, n):
			n = pick(chance, r.S.S.Lo, r.S.S.Hi)
		}
		return number(n)
	case ref:
		return api.Value{Kind: ref, Map: r.Map}
	case cell:
		return inCell(r.Map, max(1, anyNumber(chance)), off)
	case maybeCell:
		return pick(chance, number(0), inCell(r.Map, max(1, anyNumber(chance)), 0))
	}
	return address(r.Kind, pick(chance, r.Lo, r.Hi, off))
}

// heldBySlot: likewise of a slot.
func heldBySlot(chance *rand.Rand, s api.Slot, packet int) mem.Slot {
	if s.R.Kind == none && s.Have == 0 {
		return anyFrameSlot(chance)
	}
	if s.R.Kind == none {
		return bytesOf(chance.Uint64(), s.Have|pick(chance, 0, byte(chance.Intn(256))))
	}
	v := heldBy(chance, s.R, packet)
	if v.Kind == num {
		return bytesOf(v.N, 255)
	}
	return mem.Slot{Have: 255, V: v}
}

// viewOf: a view that s holds, where one is found.
func viewOf(chance *rand.Rand, s api.State) state.View {
	v := state.View{Packet: s.Packet + chance.Intn(longest-s.Packet+1)}
	for _, r := range s.Regs {
		if n := int(r.S.S.Hi); r.Len && n > s.Packet {
			v.Packet = n
		}
	}
	for k, r := range s.Regs {
		v.Regs[k] = heldBy(chance, r, v.Packet)
	}
	for k, x := range s.Stack {
		v.Frame[k] = heldBySlot(chance, x, v.Packet)
	}
	return v
}
