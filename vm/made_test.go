package vm_test

import (
	"bytes"
	"math"
	"math/rand"
	"slices"
	"testing"

	"stockade/api"
	"stockade/asm"
	"stockade/maps"
	"stockade/mem"
	"stockade/vm"
)

const (
	none  = 0
	num   = 1
	ctx   = 2
	pkt   = 3
	frame = 4
	ref   = 5
	cell  = 6

	array = 1
	hash  = 2
	lru   = 3

	errLong   = 3
	errArg    = 1
	errNone   = 6
	errFull   = 7
	trapEmpty = 40
	trapKind  = 41
	trapBound = 42
	trapAlign = 43
	trapWrite = 44
	trapWild  = 45
	trapFuel  = 46

	farthest = 1 << 20
)

func n(x uint64) api.Value        { return api.Value{Kind: num, N: x} }
func ctxAt(off int64) api.Value   { return api.Value{Kind: ctx, Off: off} }
func pktAt(off int64) api.Value   { return api.Value{Kind: pkt, Off: off} }
func frameAt(off int64) api.Value { return api.Value{Kind: frame, Off: off} }
func refTo(m int) api.Value       { return api.Value{Kind: ref, Map: m} }
func cellAt(m int, c uint64, off int64) api.Value {
	return api.Value{Kind: cell, Map: m, N: c, Off: off}
}

func pick[T any](chance *rand.Rand, l ...T) T { return l[chance.Intn(len(l))] }

func anyBytes(chance *rand.Rand, count int) []byte {
	b := make([]byte, count)
	chance.Read(b)
	return b
}

// code: the program of a text.
func code(t *testing.T, text string) []api.Insn {
	t.Helper()
	l, line, e := asm.Parse(text)
	if e != 0 {
		t.Fatalf("line %d of %q: %d", line, text, e)
	}
	return l
}

// four: the maps of most images here.
func four() []api.Map {
	return []api.Map{{Kind: array, Key: 4, Value: 8, Cap: 2}, {Kind: hash, Key: 1, Value: 2, Cap: 2}, {Kind: lru, Key: 2, Value: 16, Cap: 2}, {Kind: hash, Key: 16, Value: 64, Cap: 3}}
}

func image(t *testing.T, text string) api.Image {
	t.Helper()
	return api.Image{Maps: four(), Code: code(t, text)}
}

func tables(t *testing.T, l []api.Map) []*maps.Table {
	t.Helper()
	var all []*maps.Table
	for _, m := range l {
		x, e := maps.New(m)
		if e != 0 {
			t.Fatal(m, e)
		}
		all = append(all, x)
	}
	return all
}

func copies(l []*maps.Table) []*maps.Table {
	var all []*maps.Table
	for _, x := range l {
		all = append(all, x.Copy())
	}
	return all
}

// begin: a machine of an image, of which its tables are told, too.
func begin(t *testing.T, text string, packet []byte, w vm.World) (*vm.Machine, []*maps.Table) {
	t.Helper()
	img := image(t, text)
	l := tables(t, img.Maps)
	m, e := vm.New(img, l, packet, w)
	if m == nil || e != 0 {
		t.Fatalf("%q: %v, %d", text, m, e)
	}
	return m, l
}

// ended: a machine that did as many steps as it could, at most 1000.
func ended(t *testing.T, text string, packet []byte, w vm.World) (*vm.Machine, []*maps.Table) {
	t.Helper()
	m, l := begin(t, text, packet, w)
	for k := 0; m.Step(); k++ {
		if k == 1000 {
			t.Fatalf("%q does not end", text)
		}
	}
	if over, _ := m.Trap(); !over {
		t.Fatalf("%q: no step, and not over", text)
	}
	return m, l
}

func exec(t *testing.T, text string, packet []byte, w vm.World, fuel int) (vm.End, []*maps.Table) {
	t.Helper()
	img := image(t, text)
	l := tables(t, img.Maps)
	x, e := vm.Exec(img, l, packet, w, fuel)
	if e != 0 {
		t.Fatalf("%q: %d", text, e)
	}
	return x, l
}

func sameEnd(a, b vm.End) bool {
	return a.Trap == b.Trap && a.At == b.At && a.Verdict == b.Verdict && a.Steps == b.Steps && bytes.Equal(a.Packet, b.Packet)
}

// shot: all that a machine tells.
type shot struct {
	at, steps int
	over      bool
	trap      api.Errno
	regs      [11]api.Value
	frame     mem.Frame
	packet    string
}

func shotOf(m *vm.Machine) shot {
	s := shot{at: m.At(), steps: m.Steps(), frame: m.Frame(), packet: string(m.Packet())}
	s.over, s.trap = m.Trap()
	for k := range s.regs {
		s.regs[k] = m.Reg(k)
	}
	return s
}

// sameTables: that two rows of tables have the same entries and cells and forget likewise. It changes none of them.
func sameTables(a, b []*maps.Table) bool {
	return slices.EqualFunc(a, b, func(x, y *maps.Table) bool {
		x, y = x.Copy(), y.Copy()
		return maps.Same(x, y) && sameCells(x, y) && sameUse(x, y)
	})
}

// sameCells: of the first 400.
func sameCells(x, y *maps.Table) bool {
	for c := 0; c < 400; c++ {
		for off := range int64(x.Map().Value) {
			a, e := x.Load(c, off, 1)
			if b, f := y.Load(c, off, 1); a != b || e != f {
				return false
			}
			if e != 0 {
				break
			}
		}
	}
	return true
}

// sameUse: whether the same go first when others come, and new cells have the same numbers.
func sameUse(x, y *maps.Table) bool {
	m := x.Map()
	for k := range m.Cap {
		key := append([]byte{byte(k), 'k', 'e', 'y'}, make([]byte, 12)...)[:m.Key]
		if x.Update(key, make([]byte, m.Value)) != y.Update(key, make([]byte, m.Value)) || !maps.Same(x, y) {
			return false
		}
		a, is := x.Lookup(key)
		if b, has := y.Lookup(key); a != b || is != has {
			return false
		}
	}
	return true
}

// edges: numbers at and beside what matters.
func edges() []uint64 {
	l := []uint64{0, 1, 2, 7, 8, 255, 256, 65535, farthest - 1, farthest, farthest + 1, 1<<31 - 1, 1 << 31, 1<<32 - 1, 1 << 32, 1<<32 + 1, 1<<63 - 1, 1 << 63, 1<<63 + 1, math.MaxUint64, 0x0102030405060708}
	for _, x := range []uint64{1, 2, 8, farthest - 1, farthest, farthest + 1, 1 << 31, 1 << 32} {
		l = append(l, -x)
	}
	return l
}

func anyNumber(chance *rand.Rand) uint64 {
	return pick(chance, append(edges(), chance.Uint64(), uint64(chance.Intn(600)), uint64(chance.Intn(20)), -uint64(chance.Intn(600)))...)
}

func anyWorld(chance *rand.Rand) vm.World {
	w := vm.World{Port: pick(chance, 0, 1, 1<<31, math.MaxUint32, chance.Uint32())}
	for range chance.Intn(5) {
		w.Times = append(w.Times, anyNumber(chance))
	}
	for range chance.Intn(5) {
		w.Chances = append(w.Chances, pick(chance, 0, 1, math.MaxUint32, chance.Uint32()))
	}
	return w
}

func anyPacket(chance *rand.Rand) []byte {
	return anyBytes(chance, pick(chance, 0, 1, 7, 8, 9, 60, 1+chance.Intn(100), chance.Intn(2000)))
}
