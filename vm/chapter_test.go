package vm_test

import (
	"math/rand"
	"testing"

	"stockade/api"
	"stockade/asm"
	"stockade/insn"
	"stockade/maps"
	"stockade/shape"
	"stockade/vm"
)

// pair: a run and its model, on tables that are the same and live apart.
type pair struct {
	m    *vm.Machine
	want *model
	l    []*maps.Table
}

func pairOf(t *testing.T, img api.Image, l []*maps.Table, packet []byte, w vm.World) pair {
	t.Helper()
	p := pair{want: toldNew(img, copies(l), packet, w), l: l}
	m, e := vm.New(img, l, packet, w)
	if e != 0 {
		t.Fatalf("%+v: %d", img, e)
	}
	p.m = m
	return p
}

// step: both do one, and tell the same of it.
func (p pair) step(t *testing.T) {
	t.Helper()
	at := p.want.at
	is, told := p.m.Step(), p.want.step()
	got, want := shotOf(p.m), p.want.shot()
	if is == told && got == want {
		return
	}
	text, _ := asm.Print(p.want.code)
	t.Fatalf("at %d: %v, not %v: %d at %d, %d steps, %v, not %d at %d, %d steps, %v; in\n%s", at, is, told, got.trap, got.at, got.steps, got.regs, want.trap, want.at, want.steps, want.regs, text)
}

func (p pair) tables(t *testing.T) {
	t.Helper()
	if !sameTables(p.l, p.want.tables) {
		text, _ := asm.Print(p.want.code)
		t.Fatalf("other tables behind\n%s", text)
	}
}

// Each operation, each condition, each load and store on each kind of value, by a register and not, wide and not.
func TestP8_2_ByKinds(t *testing.T) {
	var first []api.Insn // all that are there, with r3 as Dst and r4 as Src
	for op := range 256 {
		for _, i := range []api.Insn{{Op: byte(op), Dst: 3, Src: 4}, {Op: byte(op), Dst: 3}, {Op: byte(op), Dst: 3, Imm: 16}, {Op: byte(op), Dst: 3, Imm: -1}, {Op: byte(op), Dst: 3, Imm: 32}, {Op: byte(op), Dst: 3, Src: 4, Off: 8}, {Op: byte(op), Dst: 3, Off: -8, Imm: 1}} {
			w, e := insn.Of(i)
			switch {
			case e != 0 || w.Class == insn.Goto || w.Class == insn.Exit || w.Class == insn.Const:
				continue
			case w.Class == insn.Jump:
				i.Off = 1
			}
			first = append(first, i)
		}
	}
	if len(first) < 300 {
		t.Fatal(len(first))
	}
	count := map[api.Errno]int{}
	for _, a := range kindNames {
		for _, b := range kindNames {
			begins := code(t, ahead+gets("r3", a)+gets("r4", b))
			ends := code(t, "mov64 r0, 1\nexit\n")
			for _, i := range first {
				img := api.Image{Maps: four(), Code: append(append(append([]api.Insn{}, begins...), i), ends...)}
				p := pairOf(t, img, tables(t, img.Maps), []byte("0123456789abcdef"), vm.World{Port: 7, Times: []uint64{8}})
				for p.m.At() < len(begins) {
					p.m.Step()
					p.want.step()
				}
				p.step(t)
				_, trap := p.m.Trap()
				count[trap]++
				p.step(t)
				p.step(t)
			}
		}
	}
	for _, e := range []api.Errno{0, trapEmpty, trapKind, trapBound, trapWrite} {
		if count[e] < 200 {
			t.Errorf("%d was told %d times alone", e, count[e])
		}
	}
}

// Addresses move as far as they may, from everywhere, by everything.
func TestP8_2_FarByTheChapter(t *testing.T) {
	chance := rand.New(rand.NewSource(82))
	begins := code(t, ahead)
	count := map[api.Errno]int{}
	for range 4000 {
		c := append([]api.Insn{}, begins...)
		from := byte(pick(chance, 7, 8, 10))
		c = append(c, api.Insn{Op: 0xbf, Dst: 3, Src: from})
		for range 2 + chance.Intn(3) {
			x := pick(chance, append(edges(), 512, 513, farthest-512, farthest-511, 1<<64-(farthest-512), 2*farthest, 2*farthest+1, 1<<64-2*farthest, chance.Uint64(), chance.Uint64()%(2*farthest), -(chance.Uint64()%(2*farthest)))...)
			c = append(c, api.Insn{Op: 0x18, Dst: 4, Imm: int32(x)}, api.Insn{Imm: int32(x >> 32)})
			c = append(c, pick(chance, api.Insn{Op: 0x0f, Dst: 3, Src: 4}, api.Insn{Op: 0x1f, Dst: 3, Src: 4}, api.Insn{Op: 0x0f, Dst: 4, Src: 3}, api.Insn{Op: 0x07, Dst: 3, Imm: int32(x)}, api.Insn{Op: 0x17, Dst: 3, Imm: int32(x)}))
		}
		c = append(c, api.Insn{Op: 0x95})
		img := api.Image{Maps: four(), Code: c}
		p := pairOf(t, img, tables(t, img.Maps), nil, vm.World{})
		for !p.want.over {
			p.step(t)
		}
		count[p.want.trap]++
	}
	if min(count[trapWild], count[trapKind]) < 500 {
		t.Error("too few of one kind: ", count)
	}
}

// grower: makes a program instruction by instruction, each looked at ahead by a model, so that runs go on for long.
type grower struct {
	chance *rand.Rand
	code   []api.Insn
	want   *model
	loose  []int // jumps that were not taken: where they lead to is settled last
}

func (g *grower) reg() byte {
	if g.chance.Intn(50) == 0 {
		return 9 // which mostly holds what the program is handed
	}
	return byte(g.chance.Intn(9))
}

// place: a register that holds an address, if there is one besides 10.
func (g *grower) place() byte {
	var l []byte
	for r := byte(0); g.want != nil && r < 10; r++ {
		if v := g.want.regs[r]; v.Kind > num && v.Kind != ref {
			l = append(l, r)
		}
	}
	if len(l) == 0 || g.chance.Intn(4) == 0 {
		return 10
	}
	return pick(g.chance, l...)
}

// any: some instruction.
func (g *grower) any() api.Insn {
	c := g.chance
	i := api.Insn{Dst: g.reg(), Src: byte(pick(c, int(g.reg()), int(g.reg()), 10)), Imm: int32(anyNumber(c))}
	size := byte(c.Intn(4)) << 3
	switch c.Intn(16) {
	case 0, 1, 2:
		i.Op = byte(c.Intn(13))<<4 | pick[byte](c, 4, 7, 7, 12, 15, 15)
	case 3:
		i.Op = pick[byte](c, 0xbf, 0xb7, 0x0f, 0x07)
		i.Imm = int32(c.Intn(40) - 20)
	case 4, 5, 6:
		i.Op = 0x61 | size
		i.Src = pick(c, i.Src, g.place(), g.place())
		i.Off = int16(pick(c, 0, 4, 8, -8, -16, c.Intn(24), -c.Intn(64), -512, c.Intn(1<<16)-1<<15))
	case 7, 8:
		i.Op = 0x63 | size
		i.Dst = pick(c, i.Dst, g.place(), g.place())
		i.Off = int16(pick(c, -8, -16, -24, -c.Intn(64), c.Intn(16), c.Intn(1<<16)-1<<15))
	case 9, 10:
		i.Op = 0x62 | size
		i.Dst = pick(c, i.Dst, g.place(), g.place())
		i.Imm = pick(c, i.Imm, int32(c.Intn(3)))
		i.Off = int16(pick(c, -8, -16, -24, -c.Intn(64), c.Intn(16)))
	case 11:
		i.Op = byte(pick(c, 1, 2, 3, 4, 5, 6, 7, 10, 11, 12, 13))<<4 | pick[byte](c, 5, 6, 13, 14)
		i.Imm = pick(c, 0, 0, i.Imm)
		i.Off = int16(c.Intn(4))
	case 12:
		i = api.Insn{Op: 0xd7, Dst: i.Dst, Imm: pick[int32](c, 16, 32, 64)}
	case 13:
		i = api.Insn{Op: 0x18, Dst: i.Dst, Imm: i.Imm}
	case 14:
		i = api.Insn{Op: 0x18, Dst: byte(pick(c, 1, 1, int(i.Dst))), Src: 1, Imm: int32(c.Intn(4))}
	case 15:
		i = api.Insn{Op: 0x85, Imm: pick[int32](c, 1, 1, 2, 2, 3, 5, 7)}
	}
	return settled(i)
}

// settled: the fields that an instruction does not use are 0.
func settled(i api.Insn) api.Insn {
	for _, f := range []func(i *api.Insn){func(i *api.Insn) {}, func(i *api.Insn) { i.Off = 0 }, func(i *api.Insn) { i.Src = 0 }, func(i *api.Insn) { i.Imm = 0 }, func(i *api.Insn) { i.Src = 0 }} {
		f(&i)
		if _, e := insn.Of(i); e == 0 {
			return i
		}
	}
	return api.Insn{Op: 0xb7, Dst: 9}
}

// trick: some instructions that belong together.
func (g *grower) trick() []api.Insn {
	c := g.chance
	size := byte(c.Intn(4)) << 3
	r := byte(pick(c, 6, 7, 8))
	switch c.Intn(3) {
	case 0: // the stack: something is laid, and loaded
		off := -8 * (1 + c.Intn(16))
		return []api.Insn{{Op: 0x7b, Dst: 10, Src: byte(c.Intn(11)), Off: int16(off)}, {Op: 0x61 | size, Dst: r, Src: 10, Off: int16(off + 8*c.Intn(2))}}
	case 1: // the packet, what the program is handed
		l := []api.Insn{{Op: 0x79, Dst: r, Src: 9, Off: 8}, {Op: 0x07, Dst: r, Imm: int32(c.Intn(9) - 4)}}
		at := int16(c.Intn(len(g.want.packet) + 2))
		return append(l, pick(c, api.Insn{Op: 0x61 | size, Dst: g.reg(), Src: r, Off: at}, api.Insn{Op: 0x63 | size, Dst: r, Src: g.reg(), Off: at}, api.Insn{Op: 0x62 | size, Dst: r, Off: at, Imm: 77}, api.Insn{Op: 0x61, Dst: g.reg(), Src: 9, Off: pick[int16](c, 0, 4)}))
	}
	return append(g.help(), api.Insn{Op: 0x61 | size, Dst: r, Src: r, Off: int16(c.Intn(16))})
}

// help: a helper on a map, what it answers kept, and something stored there.
func (g *grower) help() []api.Insn {
	c := g.chance
	off, value := int32(-8*(3+c.Intn(6))), int32(-8*(10+c.Intn(4)))
	var l []api.Insn
	for k := range int16(2) {
		l = append(l, api.Insn{Op: 0x7a, Dst: 10, Off: int16(off) + 8*k, Imm: int32(c.Intn(4))})
	}
	for k := range int16(8) {
		l = append(l, api.Insn{Op: 0x7a, Dst: 10, Off: int16(value) + 8*k, Imm: int32(c.Uint32())})
	}
	l = append(l, api.Insn{Op: 0xbf, Dst: 2, Src: 10}, api.Insn{Op: 0x07, Dst: 2, Imm: off}, api.Insn{Op: 0xbf, Dst: 3, Src: 10}, api.Insn{Op: 0x07, Dst: 3, Imm: value})
	l = append(l, api.Insn{Op: 0x18, Dst: 1, Src: 1, Imm: int32(c.Intn(4))}, api.Insn{Op: 0x85, Imm: pick[int32](c, 1, 1, 2, 2, 2, 3)})
	return append(l, api.Insn{Op: 0xbf, Dst: byte(pick(c, 6, 7, 8)), Src: 0}, api.Insn{Op: 0x62 | byte(c.Intn(4))<<3, Dst: 0, Off: int16(c.Intn(16)), Imm: 99})
}

// traps: what the next instruction would trap with, the model being one that is thrown away.
func (g *grower) traps(i api.Insn) api.Errno {
	m := *g.want
	m.tables = copies(m.tables)
	m.regs, m.bytes, m.laid = map[byte]api.Value{}, map[int64]byte{}, map[int64]api.Value{}
	for r, v := range g.want.regs {
		m.regs[r] = v
	}
	for off, b := range g.want.bytes {
		m.bytes[off] = b
	}
	for k, v := range g.want.laid {
		m.laid[k] = v
	}
	m.packet = append([]byte{}, m.packet...)
	m.code = append(append([]api.Insn{}, g.code...), i, api.Insn{})
	m.step()
	return m.trap
}

// lay: an instruction is laid behind the others, and done by the model.
func (g *grower) lay(i api.Insn) {
	at := len(g.code)
	g.code = append(g.code, i)
	if insn.Places(i) == 2 {
		half := api.Insn{}
		if i.Src == 0 {
			half.Imm = pick(g.chance, 0, -1, int32(g.chance.Uint32()))
		}
		g.code = append(g.code, half)
	}
	g.want.code = g.code
	g.want.step()
	w, _ := insn.Of(i)
	switch {
	case w.Class == insn.Jump && (g.want.over || g.want.at == at+1):
		g.loose = append(g.loose, at)
	case w.Class == insn.Jump:
		for len(g.code) < g.want.at {
			g.code = append(g.code, pick(g.chance, api.Insn{Op: 0x95}, api.Insn{Op: 0xb7, Dst: 4, Imm: 9}))
		}
	}
}

// grown: a right image whose run, on these, is as long as it came to be.
func grown(chance *rand.Rand, l []*maps.Table, packet []byte, w vm.World) api.Image {
	g := &grower{chance: chance}
	img := api.Image{Maps: four()}
	g.want = toldNew(img, copies(l), packet, w)
	most := pick(chance, 10, 60, 200)
	next := []api.Insn{{Op: 0xbf, Dst: 9, Src: 1}}
	for !g.want.over && len(g.code) < most {
		for _, i := range next {
			if !g.want.over && (g.traps(i) == 0 || chance.Intn(200) == 0) {
				g.lay(i)
			}
		}
		next = []api.Insn{g.any()}
		if chance.Intn(8) == 0 {
			next = g.trick()
		}
	}
	g.code = append(g.code, api.Insn{Op: 0x95})
	starts := shape.Starts(g.code)
	for _, at := range g.loose {
		for to := chance.Intn(len(g.code)); ; to = chance.Intn(len(g.code)) {
			if starts[to] && to != at+1 {
				g.code[at].Off = int16(to - at - 1)
				break
			}
		}
	}
	img.Code = g.code
	return img
}

// filled: tables with some entries, and some cells that no entry has.
func filled(t *testing.T, chance *rand.Rand) []*maps.Table {
	t.Helper()
	l := tables(t, four())
	for _, x := range l {
		m := x.Map()
		for range chance.Intn(6) {
			key := make([]byte, m.Key)
			key[0] = byte(chance.Intn(4))
			x.Update(key, anyBytes(chance, m.Value))
			if chance.Intn(4) == 0 {
				x.Delete(key)
			}
		}
	}
	return l
}

func TestP8_2_ByTheChapter(t *testing.T) {
	chance := rand.New(rand.NewSource(820))
	classes, traps, long := map[int]int{}, map[api.Errno]int{}, 0
	for range 1500 {
		l, packet, w := filled(t, chance), anyPacket(chance), anyWorld(chance)
		img := grown(chance, l, packet, w)
		p := pairOf(t, img, l, packet, w)
		for !p.want.over && p.want.steps < 400 {
			what, _ := insn.Of(img.Code[p.want.at])
			p.step(t)
			classes[what.Class]++
		}
		p.tables(t)
		traps[p.want.trap]++
		long = max(long, p.want.steps)
	}
	for class := insn.Alu; class <= insn.Ref; class++ {
		if classes[class] < 300 && class != insn.Goto {
			t.Errorf("class %d was done %d times alone", class, classes[class])
		}
	}
	if long < 100 || min(traps[0], traps[trapEmpty], traps[trapKind]) < 20 {
		t.Error(long, traps)
	}
}

// Of anything that is a right image, however senseless: what the chapter says, for as long as is looked.
func TestP8_2_AnythingByTheChapter(t *testing.T) {
	chance := rand.New(rand.NewSource(821))
	traps, done := map[api.Errno]int{}, 0
	g := &grower{chance: chance}
	for done < 6000 {
		var c []api.Insn
		for range 1 + chance.Intn(12) {
			i := g.any()
			switch chance.Intn(8) {
			case 0:
				i = api.Insn{Op: 0x05}
			case 1:
				i = api.Insn{Op: 0x95}
			case 2:
				i = api.Insn{Op: 0xb7, Dst: g.reg(), Imm: int32(chance.Intn(9))}
			}
			if w, _ := insn.Of(i); w.Class == insn.Jump || w.Class == insn.Goto {
				i.Off = int16(chance.Intn(9) - 5)
			}
			c = append(c, i)
			if insn.Places(i) == 2 {
				c = append(c, api.Insn{})
			}
		}
		img := api.Image{Maps: four(), Code: append(c, pick(chance, api.Insn{Op: 0x95}, api.Insn{Op: 0x05, Off: -1}))}
		if _, e := shape.Check(img); e != 0 {
			continue
		}
		done++
		l := filled(t, chance)
		p := pairOf(t, img, l, anyPacket(chance), anyWorld(chance))
		for !p.want.over && p.want.steps < 60 {
			p.step(t)
		}
		if done%20 == 0 {
			p.tables(t)
		}
		if p.want.over {
			p.step(t)
		}
		traps[p.want.trap]++
	}
	if min(traps[0], traps[trapEmpty], traps[trapKind]) < 100 {
		t.Error(traps)
	}
}
