package vm_test

import (
	"math"
	"math/rand"
	"slices"
	"testing"

	"stockade/api"
	"stockade/maps"
	"stockade/mem"
	"stockade/vm"
)

func TestP8_1_AtTheBeginning(t *testing.T) {
	for _, packet := range [][]byte{nil, {}, {5, 6, 7}, make([]byte, 65535)} {
		m, _ := begin(t, "mov64 r0, 7\nexit\n", packet, vm.World{Port: 3, Times: []uint64{1}, Chances: []uint32{2}})
		want := shot{packet: string(packet)}
		want.regs[1], want.regs[10] = api.Value{Kind: api.Ctx}, api.Value{Kind: api.Frame, Off: 512}
		if got := shotOf(m); got != want {
			t.Errorf("%d bytes: %+v", len(packet), got)
		}
		if m.Frame() != (mem.Frame{}) {
			t.Error(m.Frame())
		}
	}
}

// Chapter 4's errors, each told by New and by Exec; with none of them anything is done.
func TestP8_1_NotRight(t *testing.T) {
	exit := api.Insn{Op: 0x95}
	good := four()[:1]
	for k, x := range []struct {
		img api.Image
		e   api.Errno
	}{
		{api.Image{}, 4},
		{api.Image{Maps: good}, 4},
		{api.Image{Maps: good, Code: []api.Insn{}}, 4},
		{api.Image{Maps: good, Code: slices.Repeat([]api.Insn{exit}, 513)}, 3},
		{api.Image{Maps: slices.Repeat(good, 5), Code: []api.Insn{exit}}, 3},
		{api.Image{Maps: []api.Map{{}}, Code: []api.Insn{exit}}, 26},
		{api.Image{Maps: []api.Map{good[0], {Kind: 9, Key: 4, Value: 8, Cap: 1}}, Code: []api.Insn{exit}}, 26},
		{api.Image{Maps: good, Code: []api.Insn{{}, exit}}, 20},
		{api.Image{Maps: good, Code: []api.Insn{exit, {Op: 0xb7, Dst: 10}, exit}}, 21},
		{api.Image{Maps: good, Code: []api.Insn{{Op: 0xb7, Src: 1}, exit}}, 22},
		{api.Image{Maps: good, Code: []api.Insn{{Op: 0x18}}}, 23},
		{api.Image{Maps: good, Code: []api.Insn{{Op: 0x18}, exit, exit}}, 23},
		{api.Image{Maps: good, Code: []api.Insn{{Op: 0x18, Src: 1, Imm: 1}, {}, exit}}, 26},
		{api.Image{Maps: good, Code: []api.Insn{{Op: 0x85, Imm: 4}, exit}}, 27},
		{api.Image{Maps: good, Code: []api.Insn{{Op: 0x05, Off: 1}, exit}}, 24},
		{api.Image{Maps: good, Code: []api.Insn{{Op: 0x15, Off: -2}, exit}}, 24},
		{api.Image{Maps: good, Code: []api.Insn{exit, {Op: 0xb7}}}, 25},
	} {
		for _, l := range [][]*maps.Table{nil, {nil}, tables(t, good), tables(t, slices.Repeat(good, 2))} {
			for _, packet := range [][]byte{nil, make([]byte, 65536)} {
				if m, e := vm.New(x.img, l, packet, vm.World{}); m != nil || e != x.e {
					t.Errorf("row %d: New with %d tables, %d bytes: %v, %d, not %d", k, len(l), len(packet), m, e, x.e)
				}
				for _, fuel := range []int{-1, 0, 10, 1<<20 + 1} {
					if got, e := vm.Exec(x.img, l, packet, vm.World{}, fuel); !sameEnd(got, vm.End{}) || e != x.e {
						t.Errorf("row %d: Exec with %d tables, %d bytes, fuel %d: %v, %d, not %d", k, len(l), len(packet), fuel, got, e, x.e)
					}
				}
			}
		}
	}
}

func TestP8_1_Tables(t *testing.T) {
	l := four()
	text := "mov64 r0, 7\nexit\n"
	good := tables(t, l)
	with := func(at int, x *maps.Table) []*maps.Table {
		all := slices.Clone(good)
		all[at] = x
		return all
	}
	other := func(at int, f func(m *api.Map)) []*maps.Table {
		m := l[at]
		f(&m)
		return with(at, tables(t, []api.Map{m})[0])
	}
	for k, x := range []struct {
		maps   []api.Map
		tables []*maps.Table
		e      api.Errno
	}{
		{l, good, 0},
		{l[:1], good[:1], 0},
		{l[:3], good[:3], 0},
		{nil, nil, 0}, {nil, []*maps.Table{}, 0}, {[]api.Map{}, nil, 0},
		{slices.Repeat(l[:1], 2), []*maps.Table{good[0], good[0]}, 0}, // the very same, for two maps
		{l, tables(t, l), 0},
		{l, nil, errArg}, {l, []*maps.Table{}, errArg}, {l, good[:3], errArg}, {l[:3], good, errArg}, {nil, good[:1], errArg}, {l[:1], nil, errArg},
		{l, append(slices.Clone(good), good[0]), errArg}, {l, append(slices.Clone(good), nil), errArg}, {nil, []*maps.Table{nil}, errArg},
		{l, with(0, nil), errArg}, {l, with(1, nil), errArg}, {l, with(2, nil), errArg}, {l, with(3, nil), errArg}, {l, make([]*maps.Table, 4), errArg},
		{l, with(0, new(maps.Table)), errArg}, {l, with(3, new(maps.Table)), errArg},
		{l, with(0, good[1]), errArg}, {l, with(3, good[1]), errArg},
		{l, []*maps.Table{good[1], good[0], good[2], good[3]}, errArg},
		{l, other(1, func(m *api.Map) { m.Kind = lru }), errArg}, {l, other(2, func(m *api.Map) { m.Kind = hash }), errArg},
		{l, other(1, func(m *api.Map) { m.Key++ }), errArg}, {l, other(3, func(m *api.Map) { m.Value-- }), errArg}, {l, other(0, func(m *api.Map) { m.Cap++ }), errArg},
		{l, other(2, func(m *api.Map) { m.Cap-- }), errArg},
	} {
		img := api.Image{Maps: x.maps, Code: code(t, text)}
		for _, size := range []int{0, 65535, 65536, 65537, 1 << 20} {
			told := x.e
			if told == 0 && size > 65535 {
				told = errLong
			}
			packet := make([]byte, size)
			m, e := vm.New(img, x.tables, packet, vm.World{})
			if (m == nil) != (told != 0) || e != told {
				t.Errorf("row %d: New with %d bytes: %v, %d, not %d", k, size, m, e, told)
			}
			for _, fuel := range []int{-1, 2, 1 << 20, 1<<20 + 1, math.MaxInt, math.MinInt} {
				want := told
				if told == 0 && (fuel < 0 || fuel > 1<<20) {
					want = errArg
				}
				end := vm.End{}
				if want == 0 {
					end = vm.End{At: 1, Verdict: 7, Steps: 2, Packet: packet}
				}
				if got, e := vm.Exec(img, x.tables, packet, vm.World{}, fuel); !sameEnd(got, end) || e != want {
					t.Errorf("row %d: Exec with %d bytes, fuel %d: %v, %d, not %d", k, size, fuel, got, e, want)
				}
			}
		}
	}
}

// R4: where an error is told nothing was done to the tables, nor swept in them.
func TestP8_1_ErrorsChangeNothing(t *testing.T) {
	text := "put8 r10-1, 1\nmov64 r2, r10\nadd64 r2, -1\nmap r1, 1\ncall 3\nexit\n"
	for k, x := range []struct {
		size, fuel int
		e          api.Errno
		code       []api.Insn
	}{
		{65536, 100, errLong, nil}, {65536, -1, errLong, nil}, {9, -1, errArg, nil}, {9, 1<<20 + 1, errArg, nil}, {9, 100, 25, code(t, text)[:6]}, {9, 100, 0, nil},
	} {
		img := image(t, text)
		if x.code != nil {
			img.Code = x.code
		}
		l := tables(t, img.Maps)
		for _, key := range []byte{1, 2} {
			l[1].Update([]byte{key}, []byte{3, 4})
		}
		l[1].Delete([]byte{2})
		before := copies(l)
		_, e := vm.Exec(img, l, make([]byte, x.size), vm.World{}, x.fuel)
		if e != x.e || sameTables(l, before) != (e != 0) {
			t.Errorf("row %d: %d, not %d; %v", k, e, x.e, l[1].Entries())
		}
	}
}

// The tables are the very ones: what one machine does is seen by all who have them.
func TestP8_1_TheVeryTables(t *testing.T) {
	img := image(t, "put8 r10-1, 1\nput16 r10-4, 772\nmov64 r2, r10\nadd64 r2, -1\nmov64 r3, r10\nadd64 r3, -4\nmap r1, 1\ncall 2\nexit\n")
	l := tables(t, img.Maps)
	m, e := vm.New(img, l, nil, vm.World{})
	if e != 0 {
		t.Fatal(e)
	}
	other, e := vm.New(image(t, "put8 r10-1, 1\nmov64 r2, r10\nadd64 r2, -1\nmap r1, 1\ncall 1\nload16 r0, r0+0\nexit\n"), l, nil, vm.World{})
	if e != 0 {
		t.Fatal(e)
	}
	for range 7 {
		m.Step()
	}
	if l[1].Len() != 0 {
		t.Error("an Update ahead of its call")
	}
	m.Step()
	if c, is := l[1].Lookup([]byte{1}); c != 1 || !is {
		t.Error(c, is)
	}
	l[1].Update([]byte{1}, []byte{9, 1}) // what is done to them meanwhile is seen, too
	for other.Step() {
	}
	if over, trap := other.Trap(); !over || trap != 0 || other.Reg(0) != n(265) {
		t.Error(over, trap, other.Reg(0))
	}
	if x, e := vm.Exec(image(t, "mov64 r0, 1\nexit\n"), l, nil, vm.World{}, 10); x.Verdict != 1 || e != 0 || l[1].Len() != 1 {
		t.Error(x, e, l[1].Len())
	}
}

// R3: what was handed in may be written over: the run goes on as it would.
func TestP8_1_NothingIsKept(t *testing.T) {
	chance := rand.New(rand.NewSource(81))
	text := "load64 r6, r1+8\nload8 r7, r6+0\ncall 5\nadd64 r7, r0\ncall 7\nadd64 r7, r0\ncall 5\nadd64 r7, r0\ncall 7\nadd64 r0, r7\nput8 r10-1, 1\nmov64 r2, r10\nadd64 r2, -1\nmap r1, 1\nmov64 r8, r0\ncall 1\njne64 r0, 0, +2\nmov64 r0, 1\nexit\nload16 r0, r0+0\nadd64 r0, r8\nexit\n"
	for stop := range 22 {
		img := image(t, text)
		l, packet := tables(t, img.Maps), []byte{100, 1}
		w := vm.World{Port: 1, Times: []uint64{1000, 10000}, Chances: []uint32{100000, 1000000}}
		mine := slices.Clone(l)
		l[1].Update([]byte{1}, []byte{7, 0})
		m, e := vm.New(img, l, packet, w)
		if e != 0 {
			t.Fatal(e)
		}
		for range stop {
			m.Step()
		}
		for k := range img.Code {
			img.Code[k] = api.Insn{Op: 0x95}
		}
		for k := range img.Maps {
			img.Maps[k] = api.Map{Kind: 1, Key: 4, Value: 1 + chance.Intn(3), Cap: 1}
		}
		clear(l)
		clear(packet)
		clear(w.Times)
		clear(w.Chances)
		for m.Step() {
		}
		if _, trap := m.Trap(); trap != 0 || m.Reg(0) != n(1111107) || string(m.Packet()) != "d\x01" {
			t.Errorf("%d steps: %d, %v, %v", stop, trap, m.Reg(0), m.Packet())
		}
		if !sameTables(mine[:1], tables(t, four()[:1])) || mine[1].Len() != 1 {
			t.Error(mine[1].Entries())
		}
	}
}
