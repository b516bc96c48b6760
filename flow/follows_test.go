package flow_test

import (
	"math/rand"
	"slices"
	"testing"

	"stockade/api"
	"stockade/asm"
	"stockade/flow"
	"stockade/insn"
	"stockade/maps"
	"stockade/mem"
	"stockade/shape"
	"stockade/state"
	"stockade/vm"
)

// viewOf: what a run has.
func viewOf(m *vm.Machine) state.View {
	v := state.View{Frame: m.Frame(), Packet: len(m.Packet())}
	for k := range v.Regs {
		v.Regs[k] = m.Reg(k)
	}
	return v
}

// knownOf: a register's knowledge that holds a value, as near as is asked: 0 is the nearest.
func knownOf(chance *rand.Rand, v api.Value, packet, loose int) api.Reg {
	r := api.Reg{Kind: v.Kind, Map: v.Map}
	if loose > 0 && chance.Intn(25) == 0 {
		return api.Reg{}
	}
	switch v.Kind {
	case num:
		r.S = both(v.N, 0, v.N, v.N)
		if loose > 0 {
			r.S = around(chance, v.N)
		}
		r.Len = v.N == uint64(packet) && r.S.S.Hi <= longest && (loose == 0 || chance.Intn(2) == 0)
		if v.N == 0 && loose > 0 && chance.Intn(9) == 0 {
			return maybe(chance.Intn(4))
		}
	case pkt, frame, cell:
		r.Lo, r.Hi = v.Off, v.Off
		if loose > 0 && chance.Intn(3) == 0 {
			r.Lo, r.Hi = max(-farthest, v.Off-chance.Int63n(9)), min(farthest, v.Off+chance.Int63n(9))
		}
		if v.Kind == cell && v.Off == 0 && loose > 0 && chance.Intn(3) == 0 {
			return maybe(v.Map)
		}
	}
	return r
}

func knownOfSlot(chance *rand.Rand, x mem.Slot, packet, loose int) api.Slot {
	v := x.V
	if v.Kind == none {
		n, _ := mem.Get(x.B[:], 0, 8)
		v = api.Value{Kind: num, N: n}
	}
	if r := knownOf(chance, v, packet, loose); x.Have == 255 && r.Kind != none && chance.Intn(2) == 0 {
		return laid(r)
	}
	if x.V.Kind != none {
		return have(0)
	}
	if loose == 0 || chance.Intn(2) == 0 {
		return have(x.Have)
	}
	return have(x.Have & byte(chance.Intn(256)))
}

// knownOfView: a state that holds what a run has.
func knownOfView(t *testing.T, chance *rand.Rand, v state.View, loose int) api.State {
	t.Helper()
	var s api.State
	for k, x := range v.Regs {
		s.Regs[k] = knownOf(chance, x, v.Packet, loose)
	}
	for k, x := range v.Frame {
		s.Stack[k] = knownOfSlot(chance, x, v.Packet, loose)
	}
	s.Packet = pick(chance, v.Packet, chance.Intn(v.Packet+1))
	if loose == 0 {
		s.Packet = v.Packet
	}
	if !state.Holds(s, v) {
		t.Fatalf("%+v does not hold %+v", s, v)
	}
	return s
}

// writer: writes a program ahead of a run, instruction by instruction. All that is not written yet are Exits, so that its image is always right.
type writer struct {
	chance *rand.Rand
	img    api.Image
	tables []*maps.Table
	packet []byte
	world  vm.World
	next   []api.Insn // what has to come
}

func newWriter(t *testing.T, chance *rand.Rand) *writer {
	t.Helper()
	w := &writer{chance: chance, img: api.Image{Maps: four(), Code: slices.Repeat([]api.Insn{{Op: 0x95}}, 80)}}
	for _, m := range w.img.Maps {
		x, e := maps.New(m)
		if e != 0 {
			t.Fatal(e)
		}
		key, value := make([]byte, m.Key), make([]byte, m.Value)
		chance.Read(value)
		x.Update(key, value)
		w.tables = append(w.tables, x)
	}
	w.packet = make([]byte, pick(chance, 0, 1, 14, 60, chance.Intn(300), chance.Intn(2000)))
	chance.Read(w.packet)
	w.world = vm.World{Port: chance.Uint32(), Times: []uint64{anyNumber(chance), anyNumber(chance)}, Chances: []uint32{chance.Uint32(), 3}}
	w.next = []api.Insn{{Op: 0xbf, Dst: 9, Src: 1}}
	return w
}

// run: a machine that has done so many steps.
func (w *writer) run(t *testing.T, steps int) *vm.Machine {
	t.Helper()
	var l []*maps.Table
	for _, x := range w.tables {
		l = append(l, x.Copy())
	}
	m, e := vm.New(w.img, l, w.packet, w.world)
	if e != 0 {
		t.Fatal(e)
	}
	for range steps {
		m.Step()
	}
	return m
}

// tricks: some instructions that belong together.
func (w *writer) tricks() []api.Insn {
	c := w.chance
	size, r := byte(c.Intn(4))<<3, byte(6+c.Intn(3))
	off := int16(-8 * (1 + c.Intn(8)))
	switch c.Intn(6) {
	case 0: // a number that has bounds is added to an address
		return []api.Insn{{Op: 0x57, Dst: 4, Imm: int32(1)<<c.Intn(8) - 1}, {Op: 0x0f, Dst: r, Src: 4}}
	case 1: // the length, and a look at it
		return []api.Insn{{Op: 0x61, Dst: r, Src: 9}, {Op: pick[byte](c, 0x15, 0x25, 0x35, 0xa5, 0xb5, 0x55, 0x36, 0xad, 0x2d), Dst: r, Off: int16(c.Intn(3)), Imm: int32(len(w.packet) - 20 + c.Intn(40))}}
	case 2:
		return []api.Insn{{Op: 0x79, Dst: r, Src: 9, Off: 8}, {Op: 0x07, Dst: r, Imm: int32(c.Intn(9) - 4)}, {Op: pick[byte](c, 0x61, 0x62) | size, Dst: 4, Src: r, Off: int16(pick(c, c.Intn(60), len(w.packet)-c.Intn(12)))}}
	case 3:
		return []api.Insn{{Op: 0x7b, Dst: 10, Src: byte(c.Intn(11)), Off: off}, {Op: pick[byte](c, 0x61, 0x62, 0x63) | size, Dst: r, Src: 10, Off: off}}
	}
	l := []api.Insn{{Op: 0x7a, Dst: 10, Off: -16}, {Op: 0x7a, Dst: 10, Off: -8, Imm: int32(c.Intn(2))}}
	for k := range int16(8) {
		l = append(l, api.Insn{Op: 0x7a, Dst: 10, Off: -96 + 8*k, Imm: 5})
	}
	if c.Intn(3) == 0 { // not all of them are laid, or an address is
		k := c.Intn(len(l))
		l[k] = pick(c, api.Insn{Op: 0x7b, Dst: 10, Src: 9, Off: l[k].Off}, api.Insn{Op: 0x72, Dst: 10, Off: l[k].Off + int16(c.Intn(8)), Imm: 3})
	}
	l = append(l, api.Insn{Op: 0xbf, Dst: 2, Src: 10}, api.Insn{Op: 0x07, Dst: 2, Imm: -16}, api.Insn{Op: 0xbf, Dst: 3, Src: 10}, api.Insn{Op: 0x07, Dst: 3, Imm: -96})
	l = append(l, api.Insn{Op: 0x18, Dst: 1, Src: 1, Imm: int32(c.Intn(4))}, api.Insn{Op: 0x85, Imm: pick[int32](c, 1, 1, 1, 2, 3)}, api.Insn{Op: 0x7b, Dst: 10, Src: 0, Off: -24}, api.Insn{Op: pick[byte](c, 0x15, 0x55), Dst: 0, Off: 1})
	return append(l, api.Insn{Op: 0xbf, Dst: r, Src: 0}, api.Insn{Op: 0x63 | size, Dst: r, Src: 4, Off: int16(c.Intn(8))})
}

// write: an instruction at a place; whether the image is right with it.
func (w *writer) write(i api.Insn, at int) bool {
	was := slices.Clone(w.img.Code)
	w.img.Code[at] = i
	if what, _ := insn.Of(i); (what.Class == insn.Jump || what.Class == insn.Goto) && (i.Off < 0 || i.Off > 2) {
		w.img.Code[at].Off = int16(w.chance.Intn(3))
	}
	if i.Op == 0x18 {
		w.img.Code[at+1] = api.Insn{}
		if i.Src == 0 {
			w.img.Code[at+1].Imm = pick(w.chance, 0, 0, -1, w.chance.Int31())
		}
	}
	if _, e := shape.Check(w.img); e == 0 {
		return true
	}
	w.img.Code = was
	return false
}

// choose: what the run does next, behind so many steps: mostly something that goes, as far as is known by the nearest state. What does not is tried by a run that goes no further.
func (w *writer) choose(t *testing.T, done int, m *vm.Machine, count map[[2]int]int) {
	t.Helper()
	at, near := m.At(), knownOfView(t, w.chance, viewOf(m), 0)
	for tries := 0; ; tries++ {
		i := anyInsn(w.chance, 4)
		if w.chance.Intn(2) == 0 && i.Op&7 == 1 {
			i.Src = pick[byte](w.chance, 6, 7, 8, 9, 10, 10)
		}
		if len(w.next) > 0 {
			i, w.next = w.next[0], w.next[1:]
		} else if w.chance.Intn(8) == 0 {
			w.next = w.tricks()
		}
		was := slices.Clone(w.img.Code)
		if !w.write(i, at) {
			continue
		}
		l, e := flow.Step(w.img, at, near)
		goes := e == 0 && (len(l) > 0 || w.chance.Intn(3) == 0) // an Exit does not go on
		if goes || tries > 40 {
			return
		}
		if w.chance.Intn(3) == 0 {
			follow(t, w, w.run(t, done), count)
		}
		w.img.Code = was
	}
}

// follow: that what the run has behind its next instruction is held by one of the states that Step tells of each of some states that hold what it has ahead of it.
func follow(t *testing.T, w *writer, m *vm.Machine, count map[[2]int]int) {
	t.Helper()
	at, v := m.At(), viewOf(m)
	class, _ := insn.Of(w.img.Code[at])
	var states []api.State
	for k := range 5 {
		states = append(states, knownOfView(t, w.chance, v, k))
	}
	if !m.Step() {
		t.Fatal("no step")
	}
	over, trap := m.Trap()
	after := viewOf(m)
	for _, s := range states {
		l, e := flow.Step(w.img, at, s)
		count[[2]int{class.Class, int(e)}]++
		switch {
		case e != 0:
			continue
		case trap != 0:
			t.Fatalf("%+v: no reason of %+v, but the trap %d of %+v", w.img.Code[at], s, trap, v)
		case over:
			continue
		}
		if !slices.ContainsFunc(l, func(x flow.Out) bool { return x.At == m.At() && state.Holds(x.S, after) }) {
			t.Fatalf("%+v: of %+v none of %+v holds %+v", w.img.Code[at], s, l, after)
		}
	}
}

func TestP13_2_Sound(t *testing.T) {
	chance := rand.New(rand.NewSource(1320))
	count := map[[2]int]int{}
	for range 250 {
		w := newWriter(t, chance)
		m := w.run(t, 0)
		for done := 0; !over(m) && m.At() < 70; done++ {
			w.choose(t, done, m, count)
			m = w.run(t, done) // a machine has a copy of its program: what was written now it does not know
			follow(t, w, m, count)
		}
	}
	for class := insn.Alu; class <= insn.Ref; class++ {
		if count[[2]int{class, 0}] < 100 {
			t.Errorf("too few of the class %d: %d", class, count[[2]int{class, 0}])
		}
	}
}

// programs: such as give no reason, whatever way they go.
func programs() []string {
	return []string{
		"mov64 r0, 7\nexit\n",
		"load32 r2, r1+0\nload64 r3, r1+8\nmov64 r0, 0\njlt64 r2, 14, +2\nload8 r0, r3+13\nload16 r4, r3+12\nexit\n",
		"load32 r2, r1+0\nload64 r3, r1+8\nmov64 r0, 0\njle64 r2, 20, +6\nload8 r4, r3+0\nand64 r4, 15\nadd64 r3, r4\nload32 r0, r3+2\nstore8 r3+5, r0\nput16 r3+0, 9\nexit\n",
		"put32 r10-4, 1\nmov64 r2, r10\nadd64 r2, -4\nmap r1, 0\ncall 1\njeq64 r0, 0, +3\nload64 r6, r0+0\nadd64 r6, 1\nstore64 r0+0, r6\nmov64 r0, 1\nexit\n",
		"mov64 r6, r1\nput8 r10-1, 0\nput16 r10-16, 300\nmov64 r2, r10\nsub64 r2, 1\nmov64 r3, r10\nadd64 r3, -16\nmap r1, 1\ncall 2\nstore64 r10-24, r6\nput8 r10-1, 0\nmov64 r2, r10\nsub64 r2, 1\nmap r1, 1\ncall 1\nstore64 r10-32, r0\nload64 r7, r10-32\njne64 r7, 0, +2\nmov64 r0, 0\nexit\nload16 r0, r7+0\nload64 r8, r10-24\nload32 r9, r8+4\nand64 r0, 1\nadd64 r7, r0\nload8 r0, r7+0\nexit\n",
		"call 5\nmov64 r6, r0\ncall 7\nstore64 r10-8, r6\njsgt64 r6, r0, +3\nload8 r0, r10-8\nload16 r1, r10-2\nexit\nput16 r10-8, 1\nload64 r0, r10-8\nexit\n",
		"const r0, 81985529216486895\nswap64 r0\nswap16 r0\njset32 r0, 1, +2\nneg64 r0\ngoto +1\nmod32 r0, 10\nexit\n",
	}
}

// ways: what is known at each place of a program, on whatever way.
func ways(t *testing.T, img api.Image) map[int][]api.State {
	t.Helper()
	known := map[int][]api.State{}
	pile := []flow.Out{{At: 0, S: state.Begin()}}
	for len(pile) > 0 {
		x := pile[len(pile)-1]
		pile = pile[:len(pile)-1]
		known[x.At] = append(known[x.At], x.S)
		l, e := flow.Step(img, x.At, x.S)
		if e != 0 {
			t.Fatalf("%+v at %d: %d", img.Code, x.At, e)
		}
		pile = append(pile, l...)
	}
	return known
}

func TestP13_2_Programs(t *testing.T) {
	chance := rand.New(rand.NewSource(1321))
	for _, text := range programs() {
		code, at, e := asm.Parse(text)
		if e != 0 {
			t.Fatal(text, at, e)
		}
		for range 60 {
			w := newWriter(t, chance)
			w.img.Code = code
			known := ways(t, w.img)
			m := w.run(t, 0)
			for {
				v := viewOf(m)
				if !slices.ContainsFunc(known[m.At()], func(s api.State) bool { return state.Holds(s, v) }) {
					t.Fatalf("%q at %d: nothing that is known holds %+v", text, m.At(), v)
				}
				if m.Step(); over(m) {
					break
				}
			}
			if _, trap := m.Trap(); trap != 0 {
				t.Fatalf("%q at %d: %d", text, m.At(), trap)
			}
		}
	}
}

func over(m *vm.Machine) bool {
	is, _ := m.Trap()
	return is
}

// A reason is told where a run that is held traps.
func TestP13_2_Traps(t *testing.T) {
	for text, want := range map[string]api.Errno{
		"exit\n":               trapEmpty,
		"mov64 r0, r1\nexit\n": trapKind,
		"load64 r2, r1+8\nload8 r0, r2+0\nexit\n":  trapBound,
		"put64 r10-8, 1\nload64 r0, r10-9\nexit\n": trapAlign,
		"put8 r1+0, 1\nexit\n":                     trapWrite,
		"mov64 r2, r10\nadd64 r2, 1048576\nexit\n": trapWild,
	} {
		code, _, e := asm.Parse(text)
		if e != 0 {
			t.Fatal(text)
		}
		m, e := vm.New(api.Image{Code: code}, nil, nil, vm.World{})
		if e != 0 {
			t.Fatal(text)
		}
		s := state.Begin()
		for {
			at := m.At()
			l, e := flow.Step(api.Image{Code: code}, at, s)
			m.Step()
			if _, trap := m.Trap(); trap != 0 {
				if trap != want || e != want {
					t.Errorf("%q: %d, of a run that traps by %d", text, e, trap)
				}
				break
			}
			if e != 0 || len(l) != 1 {
				t.Fatalf("%q at %d: %d", text, at, e)
			}
			s = l[0].S
		}
	}
}

// answers hands on what Step tells of many states.
func answers(t *testing.T, seed int64, f func(img api.Image, s api.State, x flow.Out)) {
	t.Helper()
	chance := rand.New(rand.NewSource(seed))
	count := 0
	for range 40000 {
		var maps []api.Map
		for range chance.Intn(5) {
			maps = append(maps, anyMap(chance))
		}
		img, at := imageOf(chance, anyInsn(chance, len(maps)), maps)
		s := anyState(chance, len(maps))
		l, _ := flow.Step(img, at, s)
		for _, x := range l {
			f(img, s, x)
			count++
		}
	}
	if count < 10000 {
		t.Error("too few answers: ", count)
	}
}

func TestP13_3_Whole(t *testing.T) {
	answers(t, 1330, func(img api.Image, s api.State, x flow.Out) {
		if !state.May(x.S) || x.At < 0 || x.At >= len(img.Code) || !shape.Starts(img.Code)[x.At] {
			t.Fatalf("%+v of %+v: %+v", img, s, x)
		}
	})
}

// Each state that is answered is one of which Step goes on, to the end of a way.
func TestP13_3_GoesOn(t *testing.T) {
	chance := rand.New(rand.NewSource(1331))
	ends := 0
	for range 3000 {
		img := api.Image{Maps: four()}
		var code []api.Insn
		for range 3 {
			i, at := imageOf(chance, anyInsn(chance, 4), img.Maps)
			code = append(code, i.Code[at:at+insn.Places(i.Code[at])]...)
		}
		for range 9 {
			code = append(code, api.Insn{Op: 0x95})
		}
		for k, i := range code {
			if w, _ := insn.Of(i); w.Class == insn.Jump || w.Class == insn.Goto {
				code[k].Off = int16(9 - k)
			}
		}
		if img.Code = code; !right(img) {
			continue
		}
		pile := []flow.Out{{S: anyState(chance, 4)}}
		for len(pile) > 0 {
			x := pile[0]
			l, e := flow.Step(img, x.At, x.S)
			if e == errArg {
				t.Fatalf("%+v at %d: %+v", img, x.At, x.S)
			}
			pile = append(pile[1:], l...)
			ends++
		}
	}
	if ends < 3000 {
		t.Error("too few: ", ends)
	}
}

func right(img api.Image) bool {
	_, e := shape.Check(img)
	return e == 0
}

func TestP13_4_NoMore(t *testing.T) {
	answers(t, 1340, func(img api.Image, s api.State, x flow.Out) {
		if x.S.Packet < s.Packet {
			t.Fatalf("%+v of %+v: Packet %d", img, s, x.S.Packet)
		}
		for _, r := range x.S.Regs {
			mapped(t, img, r)
		}
		for _, k := range x.S.Stack {
			mapped(t, img, k.R)
		}
	})
}

// mapped: that a register that tells of a map tells of one of the image's.
func mapped(t *testing.T, img api.Image, r api.Reg) {
	t.Helper()
	if (r.Kind == ref || r.Kind == cell || r.Kind == maybeCell) && (r.Map < 0 || r.Map >= len(img.Maps)) {
		t.Fatalf("%+v, of %d maps", r, len(img.Maps))
	}
}
