package verify_test

import (
	"math/rand"
	"slices"
	"testing"

	"stockade/api"
	"stockade/flow"
	"stockade/insn"
	"stockade/maps"
	"stockade/shape"
	"stockade/state"
	"stockade/verify"
	"stockade/vm"
)

// letThrough hands on programs that are let through, most of them with something changed, and their points.
func letThrough(t *testing.T, seed int64, tries int, f func(chance *rand.Rand, img api.Image, points []flow.Out)) {
	t.Helper()
	chance := rand.New(rand.NewSource(seed))
	n := 0
	for range tries {
		img := api.Image{Maps: four(), Code: anyCode(t, chance)}
		if r, e := verify.Run(img); e == 0 {
			f(chance, img, r.Points)
			n++
		}
	}
	if n < tries/4 {
		t.Error("too few are let through: ", n)
	}
}

// tables: of an image's maps, with whatever in them.
func tables(t *testing.T, chance *rand.Rand, img api.Image) []*maps.Table {
	t.Helper()
	var l []*maps.Table
	for _, m := range img.Maps {
		x, e := maps.New(m)
		if e != 0 {
			t.Fatal(e)
		}
		for range chance.Intn(6) {
			key, value := make([]byte, m.Key), make([]byte, m.Value)
			key[0] = byte(chance.Intn(4))
			if chance.Intn(4) == 0 {
				chance.Read(key)
			}
			chance.Read(value)
			x.Update(key, value)
		}
		l = append(l, x)
	}
	return l
}

func packet(chance *rand.Rand) []byte {
	b := make([]byte, pick(chance, 0, 1, 14, 65535, chance.Intn(20), chance.Intn(100), chance.Intn(100), chance.Intn(1500)))
	if chance.Intn(4) > 0 {
		chance.Read(b)
	}
	return b
}

func word(chance *rand.Rand) uint64 {
	edge := uint64(1) << chance.Intn(64)
	return pick(chance, 0, 1, edge, edge-1, -edge, 1<<64-1, uint64(chance.Intn(100)), chance.Uint64())
}

func world(chance *rand.Rand) vm.World {
	w := vm.World{Port: uint32(word(chance))}
	for range chance.Intn(4) {
		w.Times, w.Chances = append(w.Times, word(chance)), append(w.Chances, uint32(word(chance)))
	}
	return w
}

// A run of a program that is let through ends by an Exit, within as many steps as there are places.
func TestP14_2_Harmless(t *testing.T) {
	letThrough(t, 1420, 3000, func(chance *rand.Rand, img api.Image, _ []flow.Out) {
		for range 12 {
			p, w := packet(chance), world(chance)
			x, e := vm.Exec(img, tables(t, chance, img), p, w, len(img.Code))
			if e != 0 || x.Trap != 0 || img.Code[x.At].Op != 0x95 || x.Steps > len(img.Code) {
				t.Fatalf("%+v with %v, %+v: %d, the trap %d at %d behind %d steps", img.Code, p, w, e, x.Trap, x.At, x.Steps)
			}
		}
	})
}

// Every packet that is short, of programs that look how long it is.
func TestP14_2_ShortPackets(t *testing.T) {
	for _, text := range []string{
		"load32 r2, r1+0\nload64 r6, r1+8\njlt64 r2, 14, +2\nload16 r0, r6+12\nexit\nmov64 r0, 0\nexit\n",
		"load32 r2, r1+0\nload64 r6, r1+8\nmov64 r0, 0\njle64 r2, 22, +5\nload8 r4, r6+0\nand64 r4, 15\nadd64 r6, r4\nload64 r0, r6+0\nstore8 r6+7, r0\nexit\n",
		"load32 r2, r1+0\nload64 r6, r1+8\nmov64 r0, 0\njgt64 r2, 40, +1\nexit\nload8 r3, r6+40\njset64 r3, 1, +1\nexit\nload64 r0, r6+33\nexit\n",
		"load32 r2, r1+0\nload64 r6, r1+8\nmov64 r0, 0\nmov64 r3, 8\njlt64 r2, r3, +1\nload64 r0, r6+0\nexit\n",
		"load32 r2, r1+0\nload64 r6, r1+8\nmov64 r0, 0\njeq64 r2, 9, +1\nexit\nadd64 r6, 9\nload64 r0, r6-8\nexit\n",
	} {
		img := image(t, text)
		if _, e := verify.Run(img); e != 0 {
			t.Errorf("%q: %d", text, e)
		}
		for long := range 100 {
			x, e := vm.Exec(img, tables(t, rand.New(rand.NewSource(1)), img), slices.Repeat([]byte{255}, long), vm.World{}, 100)
			if e != 0 || x.Trap != 0 {
				t.Errorf("%q of %d bytes: %d, the trap %d at %d", text, long, e, x.Trap, x.At)
			}
		}
	}
}

// What traps with some packet, world or tables is not let through, and told at a place where a way may trap.
func TestP14_2_Traps(t *testing.T) {
	chance := rand.New(rand.NewSource(1421))
	traps := map[api.Errno]int{}
	for range 2500 {
		img := api.Image{Maps: four(), Code: wrong(chance, anyCode(t, chance))}
		if _, e := shape.Check(img); e != 0 {
			continue
		}
		for range 8 {
			x, e := vm.Exec(img, tables(t, chance, img), packet(chance), world(chance), 2*len(img.Code))
			if e != 0 || x.Trap == 0 {
				continue
			}
			traps[x.Trap]++
			if r, e := verify.Run(img); e == 0 {
				t.Fatalf("%+v: the trap %d at %d, but %d points", img.Code, x.Trap, x.At, len(r.Points))
			}
			break
		}
	}
	for _, e := range []api.Errno{trapEmpty, trapKind, trapBound, trapAlign, trapWrite, trapWild, api.TrapFuel} {
		if traps[e] < 8 {
			t.Errorf("too few trap by %d: %d", e, traps[e])
		}
	}
}

// viewOf: what a run has.
func viewOf(m *vm.Machine) state.View {
	v := state.View{Frame: m.Frame(), Packet: len(m.Packet())}
	for k := range v.Regs {
		v.Regs[k] = m.Reg(k)
	}
	return v
}

// Whatever a run holds at a place, the state of a point there holds.
func TestP14_3_Covered(t *testing.T) {
	steps := 0
	letThrough(t, 1430, 1200, func(chance *rand.Rand, img api.Image, points []flow.Out) {
		for range 3 {
			m, e := vm.New(img, tables(t, chance, img), packet(chance), world(chance))
			if e != 0 {
				t.Fatal(e)
			}
			for more := true; more; steps++ {
				v := viewOf(m)
				if !slices.ContainsFunc(points, func(p flow.Out) bool { return p.At == m.At() && state.Holds(p.S, v) }) {
					t.Fatalf("%+v at %d: no point holds %+v", img.Code, m.At(), v)
				}
				m.Step()
				over, _ := m.Trap()
				more = !over
			}
		}
	})
	if steps < 20000 {
		t.Error("too few steps: ", steps)
	}
}

func covers(a, b flow.Out) bool { return a.At == b.At && state.In(b.S, a.S) }

// The points begin with Begin, cover what comes of each of them, and none is covered by one ahead of it.
func TestP14_4_Closed(t *testing.T) {
	letThrough(t, 1440, 1500, func(_ *rand.Rand, img api.Image, points []flow.Out) {
		if points[0] != (flow.Out{S: state.Begin()}) {
			t.Fatalf("%+v begins with %+v", img.Code, points[0])
		}
		at := map[int][]flow.Out{}
		for k, p := range points {
			for _, q := range at[p.At] {
				if covers(q, p) {
					t.Fatalf("%+v: the point %d is covered by one ahead of it", img.Code, k)
				}
			}
			at[p.At] = append(at[p.At], p)
		}
		for k, p := range points {
			l, e := flow.Step(img, p.At, p.S)
			if e != 0 {
				t.Fatalf("%+v: of the point %d %d", img.Code, k, e)
			}
			for _, q := range l {
				if !slices.ContainsFunc(at[q.At], func(p flow.Out) bool { return covers(p, q) }) {
					t.Fatalf("%+v: no point covers what comes of the point %d", img.Code, k)
				}
			}
		}
	})
}

// goesThrough: whether going from Begin, instruction by instruction, gives no reason and ends at the last place; and what is known at each of them.
func goesThrough(img api.Image) ([]flow.Out, bool) {
	var l []flow.Out
	p := flow.Out{S: state.Begin()}
	for {
		to, e := flow.Step(img, p.At, p.S)
		l = append(l, p)
		if e != 0 || len(to) == 0 {
			return l, e == 0 && p.At == len(img.Code)-1
		}
		p = to[0]
	}
}

// A program without jumps is let through just if it goes through, and its points are what is known on its one way.
func TestP14_5_InTheSmall(t *testing.T) {
	chance := rand.New(rand.NewSource(1450))
	count := map[bool]int{}
	for k := range 3000 {
		code := line(t, chance, 1+chance.Intn(5))
		for range k % 3 {
			code = wrong(chance, code)
		}
		if slices.ContainsFunc(code, jumps) {
			continue
		}
		img := api.Image{Maps: four(), Code: code}
		want, is := goesThrough(img)
		r, e := verify.Run(img)
		if (e == 0) != is || is && !slices.Equal(r.Points, want) {
			t.Fatalf("%+v: %d, and %d points; %v, and %d", code, e, len(r.Points), is, len(want))
		}
		if last := want[len(want)-1]; e >= trapEmpty && r.At != last.At {
			t.Fatalf("%+v: %d at %d, not at %d", code, e, r.At, last.At)
		}
		count[is]++
	}
	if count[true] < 500 || count[false] < 500 {
		t.Error(count)
	}
}

func jumps(i api.Insn) bool {
	w, _ := insn.Of(i)
	return w.Class == insn.Jump || w.Class == insn.Goto
}

// All little programs of some instructions, without jumps.
func TestP14_5_AllLittleOnes(t *testing.T) {
	var some []api.Insn
	for _, text := range []string{"mov64 r0, 0\n", "mov64 r0, r2\n", "mov64 r2, r1\n", "load64 r2, r2+8\n", "load8 r0, r10-1\n", "put8 r10-1, 1\n", "add64 r2, r0\n", "call 7\n", "exit\n"} {
		some = append(some, image(t, text).Code...)
	}
	exit, n := api.Insn{Op: 0x95}, len(some)
	for k := range n * n * n {
		img := api.Image{Code: []api.Insn{some[k/n/n], some[k/n%n], some[k%n], exit}}
		want, is := goesThrough(img)
		r, e := verify.Run(img)
		if (e == 0) != is || is && !slices.Equal(r.Points, want) {
			t.Errorf("%+v: %d, %v", img.Code, e, is)
		}
	}
}
