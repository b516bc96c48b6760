package vm_test

import (
	"bytes"
	"math/rand"
	"slices"
	"testing"

	"stockade/api"
	"stockade/insn"
	"stockade/maps"
	"stockade/shape"
	"stockade/vm"
)

// steps: a run of as many instructions as there is fuel for, by New and Step alone, and what its machine tells then.
func steps(t *testing.T, img api.Image, l []*maps.Table, packet []byte, w vm.World, fuel int) (*vm.Machine, vm.End) {
	t.Helper()
	m, e := vm.New(img, l, packet, w)
	if e != 0 {
		t.Fatal(e)
	}
	for m.Steps() < fuel && m.Step() {
	}
	over, trap := m.Trap()
	x := vm.End{Trap: trap, At: m.At(), Steps: m.Steps(), Packet: m.Packet()}
	switch {
	case !over:
		x.Trap = trapFuel
		for _, y := range l {
			y.Sweep()
		}
	case trap == 0:
		x.Verdict = m.Reg(0).N
	}
	return m, x
}

// P8.5, with no model: Exec is New and Steps.
func TestP8_5_StepByStep(t *testing.T) {
	chance := rand.New(rand.NewSource(85))
	wants := 0
	for range 600 {
		l, packet, w := filled(t, chance), anyPacket(chance), anyWorld(chance)
		img := grown(chance, l, packet, w)
		for range 3 {
			fuel := pick(chance, 400, chance.Intn(80))
			a, b := copies(l), copies(l)
			got, e := vm.Exec(img, a, packet, w, fuel)
			_, want := steps(t, img, b, packet, w, fuel)
			if e != 0 || !sameEnd(got, want) || !sameTables(a, b) {
				t.Fatalf("%+v with %d: %d, %+v, not %+v", img, fuel, e, got, want)
			}
			if want.Trap == trapFuel {
				wants++
			}
		}
	}
	if wants < 100 {
		t.Error("too few wanted fuel: ", wants)
	}
}

// With more fuel a run that ended ends the same; with less, down to none, it wants fuel.
func TestP8_5_MoreFuel(t *testing.T) {
	chance := rand.New(rand.NewSource(850))
	for range 150 {
		l, packet, w := filled(t, chance), anyPacket(chance), anyWorld(chance)
		img := grown(chance, l, packet, w)
		whole := copies(l)
		want, e := vm.Exec(img, whole, packet, w, 3000)
		if e != 0 || want.Trap == trapFuel {
			continue
		}
		needs := want.Steps // one that traps needs fuel for what traps, too
		if want.Trap != 0 {
			needs++
		}
		for _, fuel := range []int{0, 1, needs / 2, needs - 2, needs - 1, needs, needs + 1, 2 * needs, 1<<20 - 1, 1 << 20} {
			mine := copies(l)
			if fuel = max(0, fuel); fuel < needs {
				got, _ := vm.Exec(img, mine, packet, w, fuel)
				if got.Trap != trapFuel || got.Steps != fuel || got.Verdict != 0 {
					t.Fatalf("%+v with %d: %+v, not %+v", img, fuel, got, want)
				}
				continue
			}
			if got, _ := vm.Exec(img, mine, packet, w, fuel); !sameEnd(got, want) || !sameTables(mine, whole) {
				t.Fatalf("%+v with %d: %+v, not %+v", img, fuel, got, want)
			}
		}
	}
}

// Two runs of the same, on tables that are the same, are the same: nothing is left behind.
func TestP8_5_Again(t *testing.T) {
	chance := rand.New(rand.NewSource(851))
	for range 200 {
		l, packet, w := filled(t, chance), anyPacket(chance), anyWorld(chance)
		img := grown(chance, l, packet, w)
		a, b := copies(l), copies(l)
		one, _ := vm.New(img, a, packet, w)
		other, _ := vm.New(img, b, packet, w)
		for k := 0; k < 400 && one.Step(); k++ { // one ahead of the other
			if shotOf(one) == shotOf(other) {
				t.Fatal("one run steps with the other")
			}
			other.Step()
			if shotOf(one) != shotOf(other) {
				t.Fatalf("%+v: at %d, not %d", img, one.At(), other.At())
			}
		}
		if !sameTables(a, b) {
			t.Fatalf("%+v: other tables", img)
		}
	}
}

// touched: to which tables a run may do something: those to whose map, at a step, a call of update, delete or lookup goes, or into whose cell something is stored.
func touched(t *testing.T, img api.Image, l []*maps.Table, packet []byte, w vm.World) []bool {
	t.Helper()
	is := make([]bool, len(l))
	m, e := vm.New(img, copies(l), packet, w)
	if e != 0 {
		t.Fatal(e)
	}
	for m.Steps() < 400 {
		i := img.Code[m.At()]
		what, _ := insn.Of(i)
		on := m.Reg(int(i.Dst))
		if what.Class == insn.Call && i.Imm < 4 {
			on = m.Reg(1)
		}
		if what.Class == insn.Call && on.Kind == ref || (what.Class == insn.Store || what.Class == insn.StoreImm) && on.Kind == cell {
			is[on.Map] = true
		}
		if !m.Step() {
			break
		}
	}
	return is
}

func TestP8_6_ItsOwn(t *testing.T) {
	chance := rand.New(rand.NewSource(86))
	count := [2]int{}
	for range 500 {
		l := filled(t, chance)
		for _, x := range l {
			x.Sweep()
		}
		packet, w := anyPacket(chance), anyWorld(chance)
		img := grown(chance, l, packet, w)
		may := touched(t, img, l, packet, w)
		before, was, had := copies(l), bytes.Clone(packet), vm.World{Port: w.Port, Times: slices.Clone(w.Times), Chances: slices.Clone(w.Chances)}
		code, m, row := slices.Clone(img.Code), slices.Clone(img.Maps), slices.Clone(l)
		room := append(packet, "behind"...)[:len(packet)]
		if chance.Intn(2) == 0 {
			steps(t, img, l, room, w, 400)
		} else {
			vm.Exec(img, l, room, w, 400)
		}
		if !bytes.Equal(room, was) || string(room[len(room):len(room)+6]) != "behind" || w.Port != had.Port || !slices.Equal(w.Times, had.Times) || !slices.Equal(w.Chances, had.Chances) {
			t.Fatalf("%+v: what was handed in has changed", img)
		}
		if !slices.Equal(img.Code, code) || !slices.Equal(img.Maps, m) || !slices.Equal(l, row) {
			t.Fatalf("%+v: the image has changed", img)
		}
		for k := range l {
			if !may[k] && !sameTables(l[k:k+1], before[k:k+1]) {
				t.Fatalf("%+v: the table %d has changed", img, k)
			}
			if may[k] {
				count[1]++
			} else {
				count[0]++
			}
		}
	}
	if min(count[0], count[1]) < 200 {
		t.Error("too few of one kind: ", count)
	}
}

// forward: a right image whose jumps all go forward, of any instructions that keep a run going.
func forward(chance *rand.Rand) api.Image {
	for {
		c := []api.Insn{{Op: 0xb7, Imm: 1}, {Op: 0xb7, Dst: 3, Imm: int32(chance.Intn(5))}}
		for range 1 + chance.Intn(60) {
			switch chance.Intn(8) {
			case 0:
				c = append(c, api.Insn{Op: 0x18, Dst: 3, Imm: int32(chance.Intn(5))}, api.Insn{})
			case 1, 2:
				c = append(c, api.Insn{Op: pick[byte](chance, 0x15, 0x25, 0x55, 0xb5, 0xc6), Dst: 3, Off: int16(chance.Intn(9)), Imm: int32(chance.Intn(5))})
			case 3:
				c = append(c, api.Insn{Op: 0x05, Off: int16(chance.Intn(5))})
			case 4:
				c = append(c, api.Insn{Op: 0x07, Dst: 3, Imm: int32(chance.Intn(5) - 2)})
			case 5:
				if chance.Intn(4) == 0 {
					c = append(c, api.Insn{Op: 0x95})
				}
			case 6:
				if chance.Intn(10) == 0 {
					c = append(c, api.Insn{Op: 0xbf, Dst: 4, Src: 5}) // a trap
				}
			}
		}
		img := api.Image{Code: append(c, api.Insn{Op: 0x95})}
		if _, e := shape.Check(img); e == 0 {
			return img
		}
	}
}

func TestP8_7_Forward(t *testing.T) {
	chance := rand.New(rand.NewSource(87))
	jumped := 0
	for range 3000 {
		img := forward(chance)
		m, e := vm.New(img, nil, nil, vm.World{})
		if e != 0 {
			t.Fatal(e)
		}
		last := -1
		for {
			over, _ := m.Trap()
			if over {
				break
			}
			at := m.At()
			if at <= last {
				t.Fatalf("%+v: at %d behind %d", img, at, last)
			}
			if at > last+2 {
				jumped++
			}
			last = at
			m.Step()
		}
		if m.Steps() > len(img.Code) {
			t.Fatalf("%+v: %d steps", img, m.Steps())
		}
		x, e := vm.Exec(img, nil, nil, vm.World{}, len(img.Code))
		if e != 0 || x.Trap == trapFuel || x.Steps != m.Steps() || x.At != m.At() {
			t.Fatalf("%+v: %d, %+v", img, e, x)
		}
	}
	if jumped < 1000 {
		t.Error("too few jumps: ", jumped)
	}
}
