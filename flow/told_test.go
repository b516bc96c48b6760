package flow_test

import (
	"slices"

	"stockade/api"
	"stockade/flow"
	"stockade/scalar"
	"stockade/shape"
	"stockade/state"
	"stockade/tnum"
	"stockade/word"
)

// What follows says the chapter's words, row by row, apart from how the package goes about them. It leans on chapters 1, 4, 11 and 12's calls.

func giveUp(e api.Errno) { panic(e) }

// unless: the reason, if it is not so.
func unless(is bool, e api.Errno) {
	if !is {
		giveUp(e)
	}
}

func addressed(r api.Reg) bool { return r.Kind != none && r.Kind != num }

// told: what the chapter says of Step.
func told(img api.Image, at int, s api.State) (l []flow.Out, e api.Errno) {
	if _, e := shape.Check(img); e != 0 {
		return nil, e
	}
	begins := false
	for k, is := range shape.Starts(img.Code) {
		begins = begins || is && k == at
	}
	if !begins || !state.May(s) || !toldMapped(s, len(img.Maps)) {
		return nil, errArg
	}
	defer func() {
		if x := recover(); x != nil {
			l, e = nil, x.(api.Errno)
		}
	}()
	return toldOuts(img, at, s), 0
}

func toldMapped(s api.State, maps int) bool {
	regs := slices.Clone(s.Regs[:])
	for _, x := range s.Stack {
		regs = append(regs, x.R)
	}
	return !slices.ContainsFunc(regs, func(r api.Reg) bool { return r.Kind >= ref && r.Map >= maps })
}

func toldOuts(img api.Image, at int, s api.State) []flow.Out {
	i := img.Code[at]
	src := just(word.Ext(i.Imm))
	byReg := i.Op&8 != 0
	switch i.Op {
	case 0x05:
		return []flow.Out{{At: at + 1 + int(i.Off), S: s}}
	case 0x95:
		unless(s.Regs[0].Kind != none, trapEmpty)
		unless(s.Regs[0].Kind == num, trapKind)
		return nil
	case 0x18:
		s.Regs[i.Dst] = refTo(int(i.Imm))
		if i.Src == 0 {
			s.Regs[i.Dst] = just(uint64(uint32(img.Code[at+1].Imm))<<32 + uint64(uint32(i.Imm)))
		}
		return []flow.Out{{At: at + 2, S: s}}
	case 0x85:
		toldCall(img, i.Imm, &s)
		return []flow.Out{{At: at + 1, S: s}}
	case 0xd7:
		unless(s.Regs[i.Dst].Kind != none, trapEmpty)
		unless(s.Regs[i.Dst].Kind == num, trapKind)
		x, _ := scalar.Swap(int(i.Imm), s.Regs[i.Dst].S)
		s.Regs[i.Dst] = numOf(x)
		return []flow.Out{{At: at + 1, S: s}}
	}
	size := [4]int{4, 2, 1, 8}[i.Op>>3&3]
	if byReg || i.Op&7 == 3 {
		src = s.Regs[i.Src]
	}
	switch i.Op & 7 {
	case 1:
		s.Regs[i.Dst] = toldLoad(img, s, s.Regs[i.Src], int64(i.Off), size)
	case 2, 3:
		if i.Op&7 == 2 {
			src = just(word.Ext(i.Imm))
		}
		toldStore(img, &s, s.Regs[i.Dst], int64(i.Off), size, src)
	case 4, 7:
		s.Regs[i.Dst] = toldAlu(int(i.Op>>4), i.Op&7 == 7, s.Regs[i.Dst], src)
	default:
		return toldJump(i, at, s, i.Op&7 == 5, byReg, src)
	}
	return []flow.Out{{At: at + 1, S: s}}
}

func toldAlu(op int, wide bool, dst, src api.Reg) api.Reg {
	isMov := op == 11
	unless(isMov || dst.Kind != none, trapEmpty)
	unless(src.Kind != none, trapEmpty)
	if isMov && wide {
		return src
	}
	if src.Kind == num && (isMov || dst.Kind == num) {
		x := dst.S
		if dst.Kind != num {
			x = scalar.Of(77) // not looked at
		}
		s, _ := scalar.Alu(op, wide, x, src.S)
		return numOf(s)
	}
	region := func(r api.Reg) bool { return r.Kind == pkt || r.Kind == frame || r.Kind == cell }
	switch {
	case wide && op == 0 && region(dst) && src.Kind == num, wide && op == 1 && region(dst) && src.Kind == num:
	case wide && op == 0 && dst.Kind == num && region(src):
		dst, src = src, dst
	default:
		giveUp(trapKind)
	}
	var ends [2]int64
	switch single := src.S.S.Lo == src.S.S.Hi; {
	case single:
		n := int64(src.S.S.Lo)
		unless(n >= -farthest && n <= farthest, trapWild)
		ends = [2]int64{n, n}
	default:
		unless(src.S.S.Hi <= farthest, trapWild)
		ends = [2]int64{int64(src.S.S.Lo), int64(src.S.S.Hi)}
	}
	if op == 0 {
		dst.Lo, dst.Hi = dst.Lo+ends[0], dst.Hi+ends[1]
	} else {
		dst.Lo, dst.Hi = dst.Lo-ends[1], dst.Hi-ends[0]
	}
	unless(dst.Lo >= -farthest && dst.Hi >= -farthest && dst.Lo <= farthest && dst.Hi <= farthest, trapWild)
	return dst
}

// toldBelow: the plain Num of Below of so many bytes.
func toldBelow(size int) api.Reg { return numOf(scalar.Below(8 * size)) }

// toldByte: of a byte of the stack: whether an address was laid there; else whether it holds something.
func toldByte(s api.State, at int64) (isAddress, holds bool) {
	x := s.Stack[at/8]
	return addressed(x.R), x.R.Kind == num || x.R.Kind == none && x.Have>>(at%8)&1 == 1
}

// toldFrame: the one place on the stack.
func toldFrame(r api.Reg, off int64, size int) int64 {
	unless(r.Lo+off == r.Hi+off, trapWild)
	at := r.Lo + off
	unless(at >= 0 && at+int64(size) <= 512, trapBound)
	unless(at%int64(size) == 0, trapAlign)
	return at
}

func toldWithin(img api.Image, s api.State, r api.Reg, off int64, size int) {
	room := s.Packet
	if r.Kind == cell {
		room = img.Maps[r.Map].Value
	}
	unless(r.Lo+off >= 0, trapBound)
	unless(r.Hi+off+int64(size) <= int64(room), trapBound)
}

func toldLoad(img api.Image, s api.State, src api.Reg, off int64, size int) api.Reg {
	unless(src.Kind != none, trapEmpty)
	switch src.Kind {
	case num, ref, maybeCell:
		giveUp(trapKind)
	case pkt, cell:
		toldWithin(img, s, src, off, size)
		return toldBelow(size)
	case ctx:
		switch [2]int64{off, int64(size)} {
		case [2]int64{0, 4}:
			x, _ := scalar.Settle(tnum.All(), api.Span{Lo: uint64(s.Packet), Hi: longest})
			return lenOf(x)
		case [2]int64{4, 4}:
			return numOf(scalar.Below(32))
		case [2]int64{8, 8}:
			return pktAt(0, 0)
		}
		giveUp(trapBound)
	}
	at := toldFrame(src, off, size)
	if r := s.Stack[at/8].R; r.Kind != none && size == 8 {
		return r
	}
	for k := range int64(size) {
		isAddress, holds := toldByte(s, at+k)
		unless(!isAddress, trapKind)
		unless(holds, trapEmpty)
	}
	return toldBelow(size)
}

func toldStore(img api.Image, s *api.State, dst api.Reg, off int64, size int, what api.Reg) {
	unless(dst.Kind != none, trapEmpty)
	unless(dst.Kind != num && dst.Kind != ref && dst.Kind != maybeCell, trapKind)
	unless(what.Kind != none, trapEmpty)
	unless(dst.Kind != ctx, trapWrite)
	unless(dst.Kind == frame || what.Kind == num, trapKind)
	if dst.Kind != frame {
		toldWithin(img, *s, dst, off, size)
		return
	}
	at := toldFrame(dst, off, size)
	unless(size == 8 || what.Kind == num, trapKind)
	if size == 8 {
		s.Stack[at/8] = laid(what)
		return
	}
	bits := byte(0)
	for k := at / 8 * 8; k < at/8*8+8; k++ {
		if _, holds := toldByte(*s, k); holds || k >= at && k < at+int64(size) {
			bits |= 1 << (k % 8)
		}
	}
	s.Stack[at/8] = have(bits)
}

func toldJump(i api.Insn, at int, s api.State, wide, byReg bool, src api.Reg) []flow.Out {
	dst, op := s.Regs[i.Dst], int(i.Op>>4)
	next, target := at+1, at+1+int(i.Off)
	unless(dst.Kind != none, trapEmpty)
	unless(src.Kind != none, trapEmpty)
	if dst.Kind == num && src.Kind == num {
		var l []flow.Out
		if out, is := toldSide(i, s, wide, byReg, src, false); is {
			l = append(l, flow.Out{At: next, S: out})
		}
		if out, is := toldSide(i, s, wide, byReg, src, true); is {
			l = append(l, flow.Out{At: target, S: out})
		}
		return l
	}
	unless(wide && (op == 1 || op == 5) && !byReg && i.Imm == 0 && addressed(dst), trapKind)
	switch {
	case dst.Kind != maybeCell && op == 1:
		return []flow.Out{{At: next, S: s}}
	case dst.Kind != maybeCell:
		return []flow.Out{{At: target, S: s}}
	}
	is0, not0 := s, s
	is0.Regs[i.Dst], not0.Regs[i.Dst] = just(0), cellAt(dst.Map, 0, 0)
	if op == 1 {
		return []flow.Out{{At: next, S: not0}, {At: target, S: is0}}
	}
	return []flow.Out{{At: next, S: is0}, {At: target, S: not0}}
}

func toldSide(i api.Insn, s api.State, wide, byReg bool, src api.Reg, holds bool) (api.State, bool) {
	a, b, is := scalar.Refine(int(i.Op>>4), wide, s.Regs[i.Dst].S, src.S, holds)
	if !is || byReg && i.Dst == i.Src {
		return s, is
	}
	s.Regs[i.Dst].S = a
	if s.Regs[i.Dst].Len && int(a.S.Lo) > s.Packet {
		s.Packet = int(a.S.Lo)
	}
	if byReg {
		s.Regs[i.Src].S = b
		if src.Len && int(b.S.Lo) > s.Packet {
			s.Packet = int(b.S.Lo)
		}
	}
	return s, true
}

func toldCall(img api.Image, helper int32, s *api.State) {
	var out api.Reg
	switch helper {
	case 5:
		out = numOf(scalar.All())
	case 7:
		out = numOf(scalar.Below(32))
	default:
		unless(s.Regs[1].Kind != none, trapEmpty)
		unless(s.Regs[1].Kind == ref, trapKind)
		m := img.Maps[s.Regs[1].Map]
		toldBytesAt(*s, s.Regs[2], m.Key)
		if helper == 2 {
			toldBytesAt(*s, s.Regs[3], m.Value)
		}
		out = numOf(scalar.All())
		if helper == 1 {
			out = maybe(s.Regs[1].Map)
		}
	}
	s.Regs[0] = out
	for k := 1; k <= 5; k++ {
		s.Regs[k] = api.Reg{}
	}
}

func toldBytesAt(s api.State, r api.Reg, count int) {
	unless(r.Kind != none, trapEmpty)
	unless(r.Kind == frame, trapKind)
	unless(r.Lo == r.Hi, trapWild)
	for at := r.Lo; at < r.Lo+int64(count); at++ {
		unless(at >= 0 && at < 512, trapBound)
		isAddress, holds := toldByte(s, at)
		unless(!isAddress, trapKind)
		unless(holds, trapEmpty)
	}
}
