package vm_test

import (
	"bytes"
	"math/big"

	"stockade/api"
	"stockade/maps"
	"stockade/mem"
	"stockade/vm"
	"stockade/word"
)

// model: a run by the chapter's words. What no register, no byte of the stack has stands in no map.
type model struct {
	code       []api.Insn
	tables     []*maps.Table
	world      vm.World
	told, cast int // how many times, how many chances
	regs       map[byte]api.Value
	bytes      map[int64]byte
	laid       map[int64]api.Value // by the slots' numbers
	packet     []byte
	at, steps  int
	over       bool
	trap       api.Errno
}

func toldNew(img api.Image, l []*maps.Table, packet []byte, w vm.World) *model {
	m := &model{code: img.Code, tables: l, packet: bytes.Clone(packet), world: w, bytes: map[int64]byte{}, laid: map[int64]api.Value{}}
	m.regs = map[byte]api.Value{1: ctxAt(0), 10: frameAt(512)}
	return m
}

func (m *model) shot() shot {
	s := shot{at: m.at, steps: m.steps, over: m.over, trap: m.trap, packet: string(m.packet)}
	for r, v := range m.regs {
		s.regs[r] = v
	}
	for off, b := range m.bytes {
		s.frame[off/8].B[off%8] = b
		s.frame[off/8].Have |= 1 << (off % 8)
	}
	for k, v := range m.laid {
		s.frame[k] = mem.Slot{Have: 255, V: v}
	}
	return s
}

func (m *model) step() bool {
	if m.over {
		return false
	}
	i := m.code[m.at]
	next, e := m.try(i)
	switch {
	case e != 0:
		m.end(e)
	case i.Op == 0x95:
		m.steps++
		m.end(0)
	default:
		m.steps++
		m.at = next
	}
	return true
}

func (m *model) end(e api.Errno) {
	m.over, m.trap = true, e
	for _, t := range m.tables {
		t.Sweep()
	}
}

// toldExec: by the chapter's words.
func toldExec(m *model, fuel int) vm.End {
	for !m.over {
		if m.steps == fuel {
			m.end(trapFuel)
			break
		}
		m.step()
	}
	x := vm.End{Trap: m.trap, At: m.at, Steps: m.steps, Packet: m.packet}
	if m.trap == 0 {
		x.Verdict = m.regs[0].N
	}
	return x
}

// give up: that the instruction traps.
func giveUp(e api.Errno) { panic(e) }

func unless(is bool, e api.Errno) {
	if !is {
		giveUp(e)
	}
}

func addressed(v api.Value) bool { return v.Kind > num }

// try: what an instruction does, by its Op's digits. Nothing is laid down ahead of the last look.
func (m *model) try(i api.Insn) (next int, e api.Errno) {
	defer func() {
		if x := recover(); x != nil {
			next, e = 0, x.(api.Errno)
		}
	}()
	next = m.at + 1
	target := next + int(i.Off)
	switch i.Op {
	case 0x05:
		return target, 0
	case 0x85:
		m.call(i.Imm)
		return next, 0
	case 0x95:
		m.wanted(0, num)
		return m.at, 0
	case 0x18:
		v := refTo(int(i.Imm))
		if i.Src == 0 {
			v = n(uint64(uint32(m.code[next].Imm))*(1<<32) + uint64(uint32(i.Imm)))
		}
		m.regs[i.Dst] = v
		return next + 1, 0
	case 0xd7:
		m.wanted(i.Dst, num)
		x, _ := word.Swap(int(i.Imm), m.regs[i.Dst].N)
		m.regs[i.Dst] = n(x)
		return next, 0
	}
	size := []int{4, 2, 1, 8}[i.Op/8%4]
	src, reg := n(word.Ext(i.Imm)), i.Op/8%2 == 1
	if reg {
		src = m.regs[i.Src]
	}
	switch i.Op % 8 {
	case 4, 7:
		m.regs[i.Dst] = toldAlu(int(i.Op/16), i.Op%8 == 7, m.regs[i.Dst], src)
	case 5, 6:
		if toldJump(int(i.Op/16), i.Op%8 == 5, reg, m.regs[i.Dst], src) {
			return target, 0
		}
	case 1:
		m.regs[i.Dst] = m.load(m.regs[i.Src], int64(i.Off), size)
	case 2:
		m.store(m.regs[i.Dst], int64(i.Off), size, n(word.Ext(i.Imm)))
	case 3:
		m.store(m.regs[i.Dst], int64(i.Off), size, m.regs[i.Src])
	}
	return next, 0
}

func (m *model) wanted(r byte, kind byte) {
	unless(m.regs[r].Kind != none, trapEmpty)
	unless(m.regs[r].Kind == kind, trapKind)
}

func toldAlu(op int, wide bool, dst, src api.Value) api.Value {
	unless(op == 11 || dst.Kind != none, trapEmpty)
	unless(src.Kind != none, trapEmpty)
	if src.Kind == num && (dst.Kind == num || op == 11) {
		x, e := word.Alu(op, wide, dst.N, src.N)
		unless(e == 0, e)
		return n(x)
	}
	unless(wide, trapKind)
	if op == 11 {
		return src
	}
	if op == 0 && dst.Kind == num {
		dst, src = src, dst
	}
	unless(op < 2 && (dst.Kind == pkt || dst.Kind == frame || dst.Kind == cell) && src.Kind == num, trapKind)
	by := new(big.Int).SetUint64(src.N)
	if by.Bit(63) == 1 {
		by.Sub(by, new(big.Int).Lsh(big.NewInt(1), 64))
	}
	near(by)
	if op == 1 {
		by.Neg(by)
	}
	by.Add(by, big.NewInt(dst.Off))
	near(by)
	dst.Off = by.Int64()
	return dst
}

func near(x *big.Int) {
	unless(new(big.Int).Abs(x).Cmp(big.NewInt(1<<20)) <= 0, trapWild)
}

func toldJump(op int, wide, reg bool, dst, src api.Value) bool {
	unless(dst.Kind != none && src.Kind != none, trapEmpty)
	if dst.Kind == num && src.Kind == num {
		is, e := word.Cond(op, wide, dst.N, src.N)
		unless(e == 0, e)
		return is
	}
	unless(wide && !reg && src.N == 0 && (op == 1 || op == 5), trapKind)
	return op == 5
}

func (m *model) load(v api.Value, off int64, size int) api.Value {
	off += v.Off
	switch v.Kind {
	case none:
		giveUp(trapEmpty)
	case num, ref:
		giveUp(trapKind)
	case ctx:
		for _, x := range []struct {
			off  int64
			size int
			v    api.Value
		}{{0, 4, n(uint64(len(m.packet)))}, {4, 4, n(uint64(m.world.Port))}, {8, 8, pktAt(0)}} {
			if x.off == off && x.size == size {
				return x.v
			}
		}
		giveUp(trapBound)
	case pkt:
		sum := uint64(0)
		unless(off >= 0 && off+int64(size) <= int64(len(m.packet)), trapBound)
		for k := range size {
			sum += uint64(m.packet[int(off)+k]) << (8 * k)
		}
		return n(sum)
	case cell:
		x, e := m.tables[v.Map].Load(int(v.N), off, size)
		unless(e == 0, e)
		return n(x)
	}
	return m.frameLoad(off, size)
}

func (m *model) frameLoad(off int64, size int) api.Value {
	m.frameAt(off, size)
	if v, is := m.laid[off/8]; is {
		unless(size == 8, trapKind)
		return v
	}
	sum := uint64(0)
	for k := range size {
		b, is := m.bytes[off+int64(k)]
		unless(is, trapEmpty)
		sum += uint64(b) << (8 * k)
	}
	return n(sum)
}

func (m *model) frameAt(off int64, size int) {
	unless(off >= 0 && off+int64(size) <= 512, trapBound)
	unless(off%int64(size) == 0, trapAlign)
}

func (m *model) store(v api.Value, off int64, size int, x api.Value) {
	off += v.Off
	unless(v.Kind != none, trapEmpty)
	unless(v.Kind != num && v.Kind != ref, trapKind)
	unless(x.Kind != none, trapEmpty)
	unless(v.Kind != ctx, trapWrite)
	unless(v.Kind == frame || !addressed(x), trapKind)
	switch v.Kind {
	case pkt:
		unless(off >= 0 && off+int64(size) <= int64(len(m.packet)), trapBound)
		for k := range size {
			m.packet[int(off)+k] = byte(x.N >> (8 * k))
		}
	case cell:
		e := m.tables[v.Map].Store(int(v.N), off, size, x.N)
		unless(e == 0, e)
	case frame:
		m.frameAt(off, size)
		unless(size == 8 || !addressed(x), trapKind)
		m.frameLay(off, size, x)
	}
}

func (m *model) frameLay(off int64, size int, x api.Value) {
	delete(m.laid, off/8)
	if addressed(x) {
		for k := range int64(8) {
			delete(m.bytes, off+k)
		}
		m.laid[off/8] = x
		return
	}
	for k := range int64(size) {
		m.bytes[off+k] = byte(x.N >> (8 * k))
	}
}

func (m *model) call(helper int32) {
	v := m.helped(helper)
	for r := byte(1); r < 6; r++ {
		delete(m.regs, r)
	}
	m.regs[0] = v
}

func (m *model) helped(helper int32) api.Value {
	switch helper {
	case 5:
		if m.told++; m.told > len(m.world.Times) {
			return n(0)
		}
		return n(m.world.Times[m.told-1])
	case 7:
		if m.cast++; m.cast > len(m.world.Chances) {
			return n(0)
		}
		return n(uint64(m.world.Chances[m.cast-1]))
	}
	m.wanted(1, ref)
	at := m.regs[1].Map
	key := m.stack(2, m.tables[at].Map().Key)
	e := api.Errno(0)
	switch helper {
	case 1:
		if c, is := m.tables[at].Lookup(key); is {
			return cellAt(at, uint64(c), 0)
		}
		return n(0)
	case 2:
		e = m.tables[at].Update(key, m.stack(3, m.tables[at].Map().Value))
	case 3:
		e = m.tables[at].Delete(key)
	}
	if e == 0 {
		return n(0)
	}
	return n(1<<64 - 1 - uint64(e) + 1)
}

func (m *model) stack(r byte, count int) []byte {
	m.wanted(r, frame)
	var l []byte
	for k := range count {
		l = append(l, byte(m.frameLoad(m.regs[r].Off+int64(k), 1).N))
	}
	return l
}
