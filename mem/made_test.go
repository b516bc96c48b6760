package mem_test

import (
	"math"
	"math/rand"
	"slices"

	"stockade/api"
	"stockade/mem"
)

const (
	none      = 0
	num       = 1
	ctx       = 2
	pkt       = 3
	frame     = 4
	ref       = 5
	cell      = 6
	maybeCell = 7

	errArg    = 1
	trapEmpty = 40
	trapKind  = 41
	trapBound = 42
	trapAlign = 43
)

var (
	sizes   = []int{1, 2, 4, 8}
	noSizes = []int{0, -1, 3, 5, 6, 7, 9, 10, 12, 15, 16, 32, 64, 128, 255, 256, 257, 512, -2, -4, -8, 1 << 32, 1<<32 + 8, 1 << 62, math.MaxInt, math.MaxInt - 7, math.MinInt, math.MinInt + 1, math.MinInt + 8}
	farOffs = []int64{math.MinInt64, math.MinInt64 + 1, math.MinInt64 + 8, -1 << 32, -1 << 31, -4096, -512, 1 << 16, 1<<31 - 8, 1 << 31, 1 << 32, 1<<32 + 8, 1 << 62, math.MaxInt64 - 512, math.MaxInt64 - 8, math.MaxInt64 - 7, math.MaxInt64 - 3, math.MaxInt64 - 1, math.MaxInt64}
)

func n(x uint64) api.Value { return api.Value{Kind: num, N: x} }

func pick[T any](chance *rand.Rand, l ...T) T { return l[chance.Intn(len(l))] }

// named: which fields a kind names: Map, N, Off; and whether there is such a kind.
func named(kind byte) (m, n, off, is bool) {
	switch kind {
	case none:
		return false, false, false, true
	case num:
		return false, true, false, true
	case ctx, pkt, frame:
		return false, false, true, true
	case ref:
		return true, false, false, true
	case cell:
		return true, true, true, true
	}
	return false, false, false, false
}

// toldMay: whether a value may be, by the chapter's words, field by field.
func toldMay(v api.Value) bool {
	m, n, off, is := named(v.Kind)
	switch {
	case !is || !m && v.Map != 0 || !n && v.N != 0 || !off && v.Off != 0:
		return false
	case m && v.Map < 0 || v.Kind == cell && v.N == 0:
		return false
	}
	return true
}

func toldAddress(v api.Value) bool {
	return toldMay(v) && slices.Contains([]byte{ctx, pkt, frame, ref, cell}, v.Kind)
}

// toldRight: whether a frame may be, by the chapter's words.
func toldRight(f mem.Frame) bool {
	for _, s := range f {
		address := toldAddress(s.V) && s.Have == 255 && s.B == [8]byte{}
		bytes := s.V == api.Value{}
		for j := range 8 {
			bytes = bytes && (s.Have&(1<<j) != 0 || s.B[j] == 0)
		}
		if !address && !bytes {
			return false
		}
	}
	return true
}

// model: what lies in a frame: its bytes one by one (-1: nothing), and the addresses of slots that hold one.
type model struct {
	bytes     [512]int
	addresses map[int]api.Value
}

func modelOf(f mem.Frame) model {
	m := model{addresses: map[int]api.Value{}}
	for at := range m.bytes {
		s := f[at/8]
		m.bytes[at] = -1
		switch {
		case s.V != api.Value{}:
			m.addresses[at/8] = s.V
		case s.Have&(1<<(at%8)) != 0:
			m.bytes[at] = int(s.B[at%8])
		}
	}
	return m
}

func (m model) frame() mem.Frame {
	var f mem.Frame
	for at, b := range m.bytes {
		if b >= 0 {
			f[at/8].Have |= 1 << (at % 8)
			f[at/8].B[at%8] = byte(b)
		}
	}
	for k, v := range m.addresses {
		f[k] = mem.Slot{Have: 255, V: v}
	}
	return f
}

// toldPlace: the errors that tell of a place of the stack, in their order.
func toldPlace(off int64, size int) api.Errno {
	switch {
	case off < 0 || off > 512 || off+int64(size) > 512:
		return trapBound
	case off%int64(size) != 0:
		return trapAlign
	}
	return 0
}

func toldLoad(f mem.Frame, off int64, size int) (api.Value, api.Errno) {
	if !toldRight(f) || !slices.Contains(sizes, size) {
		return api.Value{}, errArg
	}
	if e := toldPlace(off, size); e != 0 {
		return api.Value{}, e
	}
	m := modelOf(f)
	v, is := m.addresses[int(off/8)]
	switch {
	case is && size != 8:
		return api.Value{}, trapKind
	case is:
		return v, 0
	}
	sum := uint64(0)
	for at := int(off) + size - 1; at >= int(off); at-- {
		if m.bytes[at] < 0 {
			return api.Value{}, trapEmpty
		}
		sum = 256*sum + uint64(m.bytes[at])
	}
	return n(sum), 0
}

func toldStore(f mem.Frame, off int64, size int, v api.Value) (mem.Frame, api.Errno) {
	if !toldRight(f) || !toldMay(v) || !slices.Contains(sizes, size) {
		return mem.Frame{}, errArg
	}
	if v.Kind == none {
		return mem.Frame{}, trapEmpty
	}
	if e := toldPlace(off, size); e != 0 {
		return mem.Frame{}, e
	}
	if v.Kind != num && size != 8 {
		return mem.Frame{}, trapKind
	}
	m := modelOf(f)
	delete(m.addresses, int(off/8))
	if v.Kind != num {
		m.addresses[int(off/8)] = v
		return m.frame(), 0
	}
	for at := int(off); at < int(off)+size; at++ {
		m.bytes[at] = int(v.N % 256)
		v.N /= 256
	}
	return m.frame(), 0
}

func toldGet(b []byte, off int64, size int) (uint64, api.Errno) {
	if !slices.Contains(sizes, size) {
		return 0, errArg
	}
	if off < 0 || off > int64(len(b)) || off+int64(size) > int64(len(b)) {
		return 0, trapBound
	}
	sum := uint64(0)
	for k := size - 1; k >= 0; k-- {
		sum = 256*sum + uint64(b[int(off)+k])
	}
	return sum, 0
}

func toldPut(b []byte, off int64, size int, x uint64) ([]byte, api.Errno) {
	if _, e := toldGet(b, off, size); e != 0 {
		return nil, e
	}
	var l []byte
	for at, old := range b {
		if at < int(off) || at >= int(off)+size {
			l = append(l, old)
			continue
		}
		l = append(l, byte(x%256))
		x /= 256
	}
	return l, 0
}

// anyNumber: any one, often one at or beside an edge.
func anyNumber(chance *rand.Rand) uint64 {
	edge := uint64(1) << chance.Intn(64)
	return pick(chance, 0, 1, 255, edge, edge-1, ^edge, math.MaxUint64, 0x0102030405060708, chance.Uint64(), chance.Uint64())
}

func anyOff(chance *rand.Rand) int64 { return int64(anyNumber(chance)) }

// anyAddress: one that may be.
func anyAddress(chance *rand.Rand) api.Value {
	v := api.Value{Kind: byte(ctx + chance.Intn(5))}
	m, n, off, _ := named(v.Kind)
	if m {
		v.Map = pick(chance, 0, 0, 1, 3, math.MaxInt, int(chance.Int31()))
	}
	if n {
		v.N = max(1, anyNumber(chance))
	}
	if off {
		v.Off = anyOff(chance)
	}
	return v
}

// mayNots: values that may not be.
func mayNots() []api.Value {
	return []api.Value{
		{Kind: none, Map: 1}, {Kind: none, Map: -1}, {Kind: none, N: 1}, {Kind: none, Off: 1}, {Kind: none, N: 1 << 63}, {Kind: none, Off: math.MinInt64},
		{Kind: num, Map: 1}, {Kind: num, Map: -1}, {Kind: num, N: 5, Map: 1}, {Kind: num, Off: 1}, {Kind: num, N: 5, Off: -1},
		{Kind: ctx, Map: 1}, {Kind: ctx, N: 1}, {Kind: ctx, Off: 8, Map: -1}, {Kind: ctx, Off: 8, N: 1},
		{Kind: pkt, Map: 1}, {Kind: pkt, N: 1}, {Kind: pkt, Off: 8, Map: -1}, {Kind: pkt, Off: 8, N: 1},
		{Kind: frame, Map: 1}, {Kind: frame, N: 1}, {Kind: frame, Off: 512, Map: -1}, {Kind: frame, Off: 512, N: 1},
		{Kind: ref, Map: -1}, {Kind: ref, Map: math.MinInt}, {Kind: ref, N: 1}, {Kind: ref, Map: 1, N: 1}, {Kind: ref, Off: 1}, {Kind: ref, Map: 1, Off: -1},
		{Kind: cell}, {Kind: cell, Map: 1}, {Kind: cell, Off: 1}, {Kind: cell, N: 1, Map: -1}, {Kind: cell, N: 1, Map: math.MinInt, Off: 8}, {Kind: cell, Map: -1},
		{Kind: maybeCell}, {Kind: maybeCell, N: 1}, {Kind: maybeCell, Map: 1}, {Kind: maybeCell, Map: 1, N: 1}, {Kind: 8}, {Kind: 8, N: 1}, {Kind: 128}, {Kind: 129, N: 1}, {Kind: 255}, {Kind: 255, Off: 1},
	}
}

// anySlot: one that a frame may have.
func anySlot(chance *rand.Rand) mem.Slot {
	if chance.Intn(3) == 0 {
		return mem.Slot{Have: 255, V: anyAddress(chance)}
	}
	s := mem.Slot{Have: pick(chance, 0, 255, 255, 1, 128, 15, 240, 3, byte(chance.Intn(256)))}
	x := anyNumber(chance)
	for j := range s.B {
		if s.Have&(1<<j) != 0 {
			s.B[j] = byte(x >> (8 * j))
		}
	}
	return s
}

// noSlots: such as no frame may have.
func noSlots() []mem.Slot {
	var l []mem.Slot
	for _, v := range mayNots() {
		l = append(l, mem.Slot{Have: 255, V: v}, mem.Slot{V: v})
	}
	for _, v := range []api.Value{n(0), n(1), n(math.MaxUint64)} {
		l = append(l, mem.Slot{Have: 255, V: v}, mem.Slot{V: v})
	}
	for _, v := range addresses() {
		for _, have := range []byte{0, 1, 127, 128, 254, 15, 240} {
			l = append(l, mem.Slot{Have: have, V: v})
		}
		for j := range 8 {
			s := mem.Slot{Have: 255, V: v}
			s.B[j] = 1
			l = append(l, s)
		}
	}
	for j := range 8 {
		for _, have := range []byte{0, 255, 85, 170} {
			s := mem.Slot{Have: have &^ (1 << j)}
			s.B[j] = 128
			l = append(l, s)
		}
	}
	return l
}

// addresses: one of each kind.
func addresses() []api.Value {
	return []api.Value{{Kind: ctx}, {Kind: pkt, Off: -3}, {Kind: frame, Off: 512}, {Kind: ref}, {Kind: ref, Map: 3}, {Kind: cell, Map: 2, N: 7, Off: 1 << 20}}
}

// anyFrame: one that may be.
func anyFrame(chance *rand.Rand) mem.Frame {
	var f mem.Frame
	for range chance.Intn(130) {
		f[chance.Intn(64)] = anySlot(chance)
	}
	return f
}

// anyPlace: an offset, mostly one of the stack.
func anyPlace(chance *rand.Rand) int64 {
	slot := 8 * int64(chance.Intn(64))
	return pick(chance, slot, slot, slot+4, slot+2, slot+1, slot+7, int64(chance.Intn(530)-9), pick(chance, farOffs...))
}

func anySize(chance *rand.Rand) int {
	return pick(chance, 1, 2, 4, 8, 8, 1, 2, 4, 8, 8, pick(chance, noSizes...))
}

func anyBytes(chance *rand.Rand, count int) []byte {
	b := make([]byte, count)
	chance.Read(b)
	return b
}
