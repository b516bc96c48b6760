package cert_test

import (
	"encoding/binary"
	"slices"

	"stockade/api"
	"stockade/flow"
	"stockade/shape"
	"stockade/state"
)

// What follows says the chapter's words, one by one, apart from how the package goes about them. It leans on the calls of chapters 4, 12 and 13.

func toldCovers(a, b flow.Out) bool { return a.At == b.At && state.In(b.S, a.S) }

func toldCheck(img api.Image, l []flow.Out) (int, api.Errno) {
	if len(l) > most {
		return 0, errLong
	}
	if n, e := shape.Check(img); e != 0 {
		return n, e
	}
	covered := func(x flow.Out) bool {
		is := false
		for _, p := range l {
			is = is || toldCovers(p, x)
		}
		return is
	}
	if !covered(begins()) {
		return len(l), errNone
	}
	for k, p := range l {
		to, e := flow.Step(img, p.At, p.S)
		if e != 0 {
			return k, e
		}
		for _, x := range to {
			if !covered(x) {
				return k, errNone
			}
		}
	}
	return 0, 0
}

// toldThin: those go that are covered by one that they do not cover; of what is left those go that one ahead of them covers.
func toldThin(l []flow.Out) []flow.Out {
	var thin []flow.Out
	for _, p := range l {
		less := slices.ContainsFunc(l, func(q flow.Out) bool { return toldCovers(q, p) && !toldCovers(p, q) })
		if !less && !slices.ContainsFunc(thin, func(q flow.Out) bool { return toldCovers(q, p) }) {
			thin = append(thin, p)
		}
	}
	return thin
}

func eight[T int | int64 | uint64](b []byte, l ...T) []byte {
	for _, n := range l {
		b = binary.LittleEndian.AppendUint64(b, uint64(n))
	}
	return b
}

func toldReg(b []byte, r api.Reg) []byte {
	b = append(b, r.Kind)
	if r.Kind == num && r.Len {
		b = append(b, 1)
	} else if r.Kind == num {
		b = append(b, 0)
	}
	if r.Kind == num {
		b = eight(b, r.S.T.V, r.S.T.M, r.S.S.Lo, r.S.S.Hi)
	}
	if r.Kind == ref || r.Kind == cell || r.Kind == maybeCell {
		b = eight(b, r.Map)
	}
	if r.Kind == pkt || r.Kind == frame || r.Kind == cell {
		b = eight(b, r.Lo, r.Hi)
	}
	return b
}

// toldForm: the form of any list, also of one that Pack refuses.
func toldForm(l []flow.Out) []byte {
	b := binary.LittleEndian.AppendUint32(nil, uint32(len(l)))
	for _, p := range l {
		b = binary.LittleEndian.AppendUint16(b, uint16(p.At))
		b = binary.LittleEndian.AppendUint16(b, uint16(p.S.Packet))
		for _, r := range p.S.Regs {
			b = toldReg(b, r)
		}
		for _, x := range p.S.Stack {
			b = toldReg(b, x.R)
			if x.R.Kind == none {
				b = append(b, x.Have)
			}
		}
	}
	return b
}

func toldPack(l []flow.Out) ([]byte, api.Errno) {
	if len(l) > most {
		return nil, errLong
	}
	for _, p := range l {
		if p.At < 0 || p.At > 511 || !state.May(p.S) {
			return nil, errArg
		}
	}
	return toldForm(l), 0
}

// reader: what is left of some bytes; what is wrong is thrown.
type reader []byte

func (r *reader) number(size int) uint64 {
	if len(*r) < size {
		panic(api.Errno(errShort))
	}
	var eight [8]byte
	copy(eight[:], (*r)[:size])
	*r = (*r)[size:]
	return binary.LittleEndian.Uint64(eight[:])
}

func mustBe(is bool) {
	if !is {
		panic(api.Errno(errForm))
	}
}

func (r *reader) reg() api.Reg {
	x := api.Reg{Kind: byte(r.number(1))}
	mustBe(x.Kind <= 7)
	switch x.Kind {
	case num:
		n := r.number(1)
		mustBe(n <= 1)
		x.Len = n == 1
		x.S.T.V = r.number(8)
		x.S.T.M = r.number(8)
		x.S.S.Lo = r.number(8)
		x.S.S.Hi = r.number(8)
	case ref, cell, maybeCell:
		x.Map = int(r.number(8))
	}
	if x.Kind == pkt || x.Kind == frame || x.Kind == cell {
		x.Lo = int64(r.number(8))
		x.Hi = int64(r.number(8))
	}
	mustBe(state.May(with(api.State{}, map[int]api.Reg{5: x})))
	return x
}

func toldUnpack(b []byte) (l []flow.Out, e api.Errno) {
	defer func() {
		if wrong, is := recover().(api.Errno); is {
			l, e = nil, wrong
		}
	}()
	r := reader(b)
	count := r.number(4)
	mustBe(count <= most)
	for range count {
		p := flow.Out{At: int(r.number(2))}
		mustBe(p.At <= 511)
		p.S.Packet = int(r.number(2))
		for k := range 11 {
			p.S.Regs[k] = r.reg()
		}
		for k := range 64 {
			if x := r.reg(); x.Kind != none {
				p.S.Stack[k] = laid(x)
			} else {
				p.S.Stack[k] = have(byte(r.number(1)))
			}
		}
		l = append(l, p)
	}
	mustBe(len(r) == 0)
	return l, 0
}
