package cert

import (
	"math"

	"stockade/api"
	"stockade/flow"
	"stockade/state"
)

const all = 255 // the Have of a slot in which a register was laid

// put puts numbers of so many bytes behind b; those below 0 come as what they are modulo 2^64.
func put(b []byte, size int, l ...uint64) []byte {
	for _, n := range l {
		for k := range size {
			b = append(b, byte(n>>(8*k)))
		}
	}
	return b
}

// number tells the number whose form b is.
func number(b []byte) uint64 {
	var n uint64
	for k, x := range b {
		n |= uint64(x) << (8 * k)
	}
	return n
}

func putPoint(b []byte, x flow.Out) []byte {
	b = put(b, 2, uint64(x.At), uint64(x.S.Packet))
	for _, r := range x.S.Regs {
		b = putReg(b, r)
	}
	for _, s := range x.S.Stack {
		b = putReg(b, s.R)
		if s.R.Kind == api.None {
			b = append(b, s.Have)
		}
	}
	return b
}

func putReg(b []byte, r api.Reg) []byte {
	b = append(b, r.Kind)
	if r.Kind == api.Num {
		b = append(b, mark(r.Len))
	}
	return put(b, 8, row(r)...)
}

func mark(is bool) byte {
	if is {
		return 1
	}
	return 0
}

// row tells the numbers of eight bytes that stand in the form of a register's knowledge, in their order.
func row(r api.Reg) []uint64 {
	switch r.Kind {
	case api.Num:
		return []uint64{r.S.T.V, r.S.T.M, r.S.S.Lo, r.S.S.Hi}
	case api.Pkt, api.Frame:
		return []uint64{uint64(r.Lo), uint64(r.Hi)}
	case api.Ref, api.MaybeCell:
		return []uint64{uint64(r.Map)}
	case api.Cell:
		return []uint64{uint64(r.Map), uint64(r.Lo), uint64(r.Hi)}
	}
	return nil
}

// known tells the register's knowledge of a kind that has that row.
func known(kind byte, isLen bool, l []uint64) api.Reg {
	r := api.Reg{Kind: kind, Len: isLen}
	switch kind {
	case api.Num:
		r.S = api.Scalar{T: api.Tnum{V: l[0], M: l[1]}, S: api.Span{Lo: l[2], Hi: l[3]}}
	case api.Pkt, api.Frame:
		r.Lo, r.Hi = int64(l[0]), int64(l[1])
	case api.Ref, api.MaybeCell:
		r.Map = int(l[0])
	case api.Cell:
		r.Map, r.Lo, r.Hi = int(l[0]), int64(l[1]), int64(l[2])
	}
	return r
}

// taker takes the next number of so many bytes off some bytes, or tells why it can't: they end, or it is above most.
type taker func(size int, most uint64) (uint64, api.Errno)

func takeList(take taker) ([]flow.Out, api.Errno) {
	count, e := take(4, api.MaxStates)
	if e != api.OK {
		return nil, e
	}
	var l []flow.Out // grows as points come: the number alone claims no room
	for range count {
		x, e := takePoint(take)
		if e != api.OK {
			return nil, e
		}
		l = append(l, x)
	}
	return l, api.OK
}

func takePoint(take taker) (flow.Out, api.Errno) {
	at, e := take(2, api.MaxCode-1)
	if e != api.OK {
		return flow.Out{}, e
	}
	packet, e := take(2, api.MaxPacket)
	if e != api.OK {
		return flow.Out{}, e
	}
	x := flow.Out{At: int(at), S: api.State{Packet: int(packet)}}
	for k := range x.S.Regs {
		if x.S.Regs[k], e = takeReg(take); e != api.OK {
			return flow.Out{}, e
		}
	}
	for k := range x.S.Stack {
		if x.S.Stack[k], e = takeSlot(take); e != api.OK {
			return flow.Out{}, e
		}
	}
	return x, api.OK
}

func takeSlot(take taker) (api.Slot, api.Errno) {
	r, e := takeReg(take)
	if e != api.OK || r.Kind != api.None {
		return api.Slot{Have: all, R: r}, e
	}
	have, e := take(1, all)
	return api.Slot{Have: byte(have)}, e
}

func takeReg(take taker) (api.Reg, api.Errno) {
	kind, e := take(1, api.MaybeCell)
	if e != api.OK {
		return api.Reg{}, e
	}
	var isLen uint64
	if kind == api.Num {
		if isLen, e = take(1, 1); e != api.OK {
			return api.Reg{}, e
		}
	}
	l := row(api.Reg{Kind: byte(kind)}) // as many numbers as are to be taken
	for k := range l {
		if l[k], e = take(8, math.MaxUint64); e != api.OK {
			return api.Reg{}, e
		}
	}
	r := known(byte(kind), isLen == 1, l)
	if !may(r) {
		return api.Reg{}, api.ErrForm
	}
	return r, api.OK
}

// may answers whether a register's knowledge may be: a state that tells nothing else may be just if it may.
func may(r api.Reg) bool { return state.May(api.State{Regs: [11]api.Reg{r}}) }
