package cert_test

import (
	"fmt"
	"math/rand"
	"slices"
	"strings"
	"testing"

	"stockade/api"
	"stockade/flow"
	"stockade/insn"
	"stockade/maps"
	"stockade/shape"
	"stockade/state"
	"stockade/vm"
)

// safe: some instructions that belong together, wherever they stand: r9 is the Ctx, r0 and r6 to r8 (N and M) are numbers, all else is whatever it is. C is a number, K a map's.
func safe() []string {
	packet, key := "load32 r2, r9+0\nload64 r3, r9+8\n", "put64 r10-8, 0\nput64 r10-16, 0\nmov64 r4, N\nand64 r4, 3\nstore8 r10-16, r4\nmov64 r2, r10\nadd64 r2, -16\nmap r1, K\n"
	value := "mov64 r3, r10\nadd64 r3, -256\n"
	for k := range 8 {
		value += fmt.Sprintf("put64 r10-%d, C\n", 200+8*k)
	}
	return []string{
		"add64 N, C\n", "add32 N, M\n", "sub64 N, M\n", "mul64 N, M\n", "and64 N, C\n", "or64 N, M\n", "xor32 N, C\n", "div64 N, M\n", "rsh64 N, M\n", "lsh64 N, 3\n", "arsh32 N, 5\n", "mov64 N, M\n", "mov64 N, C\n", "neg64 N\n", "swap16 N\n", "const N, 1311768467463790320\n", "load32 N, r9+4\n", "load32 N, r9+0\n", "call 5\nmov64 N, r0\n", "call 7\nmov64 N, r0\n",
		"store64 r10-24, N\nload64 M, r10-24\n", "put8 r10-29, C\nload8 M, r10-29\n", "store64 r10-40, r9\nload64 r5, r10-40\nload32 N, r5+0\n", "put64 r10-48, 7\nstore16 r10-46, N\nload8 M, r10-45\n", "store64 r10-56, N\n", "store32 r10-64, M\n",
		packet + "jlt64 r2, 14, +1\nload16 N, r3+12\n", packet + "jgt64 r2, 3, +1\ngoto +1\nstore32 r3+0, N\n", packet + "mov64 r4, N\nand64 r4, 15\njle64 r2, 22, +2\nadd64 r3, r4\nload64 M, r3+0\n", packet + "mov64 r4, 20\njge64 r4, r2, +2\nadd64 r4, r3\nstore8 r4+0, N\n",
		key + "call 1\nmov64 r5, r0\nmov64 r0, 3\njeq64 r5, 0, +2\nload8 N, r5+1\nstore16 r5+0, M\n", key + "call 1\nmov64 r5, r0\nmov64 r0, C\njne64 r5, 0, +1\ngoto +4\nmov64 r4, N\nand64 r4, 1\nadd64 r5, r4\nstore8 r5+0, M\n", key + "call 3\n", key + value + "call 2\n",
		"jset64 N, C, +0\n", "jlt64 N, M, +0\n", "jsgt32 N, C, +0\n", "jeq64 N, M, +0\n", "jgt64 N, C, +2\nmov64 r0, 3\nexit\n", "jset64 N, M, +2\nmov64 r5, 1\ngoto +1\nmov64 r4, r9\n", "jne32 N, C, +1\nadd64 M, 1\n",
	}
}

// harmful: such as trap on some runs, or on all.
func harmful() []string {
	return []string{
		"load8 N, r9+0\n", "mov64 r0, r9\n", "load8 N, r10-300\n", "load64 r3, r9+8\nload8 N, r3+4\n", "load64 r3, r9+8\nput16 r3+9, 5\n", "load64 r3, r9+8\nload8 N, r3-1\n", "load32 N, r10-2\n", "put32 r10-7, 1\n", "put8 r9+0, 1\n", "mov64 r3, r10\nadd64 r3, 1048576\n", "mov64 r3, r10\nadd64 r3, N\n", "mov64 N, r5\nadd64 N, 1\n", "add64 r6, r4\n",
		"put64 r10-8, 0\nput64 r10-16, 0\nmov64 r2, r10\nadd64 r2, -16\nmap r1, K\ncall 1\nload8 N, r0+0\n", "put64 r10-16, 0\nmov64 r2, r10\nadd64 r2, -16\nmap r1, 0\ncall 1\njeq64 r0, 0, +1\nload64 N, r0+1\nmov64 r0, 1\n", "map r1, K\nmov64 r2, r10\ncall 3\n", "load32 r2, r9+0\nload64 r3, r9+8\njlt64 r2, 14, +1\nload16 N, r3+13\n", "jset64 N, C, +1\nmov64 r6, r9\nadd64 r6, r6\n",
	}
}

func filled(chance *rand.Rand, text string) string {
	number := func() string { return pick(chance, "r0", "r6", "r7", "r8") }
	c := fmt.Sprint(pick(chance, 0, 1, 2, 7, 60, 255, -1, 1<<31-1, -1<<31, int32(chance.Intn(100)), int32(chance.Uint32())))
	return strings.NewReplacer("N", number(), "M", number(), "C", c, "K", fmt.Sprint(chance.Intn(4))).Replace(text)
}

// program: of so many parts, one behind the other. Jumps by 0 lead on to where another part begins; back to one ahead of them, if it is to have loops.
func program(t *testing.T, chance *rand.Rand, parts int, loops, wrong bool) api.Image {
	t.Helper()
	l := []string{"mov64 r9, r1\nmov64 r0, 0\nmov64 r6, 1\nload32 r7, r1+4\nload32 r8, r1+0\n"}
	for range parts {
		l = append(l, filled(chance, pick(chance, safe()...)))
	}
	if wrong {
		l = slices.Insert(l, 1+chance.Intn(len(l)), filled(chance, pick(chance, harmful()...)))
	}
	l = append(l, pick(chance, "exit\n", "mov64 r0, r7\nexit\n", "add64 r0, r8\nexit\n"))
	var begin []int
	img := api.Image{Maps: four()}
	for _, text := range l {
		begin = append(begin, len(img.Code))
		img.Code = append(img.Code, image(t, text).Code...)
	}
	for at, i := range img.Code {
		if w, _ := insn.Of(i); w.Class == insn.Jump && i.Off == 0 {
			n, _ := slices.BinarySearch(begin, at+1)
			if loops && chance.Intn(2) == 0 {
				n = 1 + chance.Intn(n-1)
			}
			img.Code[at].Off = int16(begin[min(len(begin)-1, n+chance.Intn(3))] - at - 1)
		}
	}
	if _, e := shape.Check(img); e != 0 {
		t.Fatalf("%+v: %d", img, e)
	}
	return img
}

// proof: points that cover all that comes of Begin, at most so many at a place; if a reason is told of one, nothing comes of it. Where there are more they are put together; where a way comes back, what goes on growing is forgotten.
func proof(img api.Image, ways int) []flow.Out {
	l, todo, came := []flow.Out{begins()}, []int{0}, map[int]int{}
	for len(todo) > 0 {
		k := todo[0]
		todo = todo[1:]
		to, _ := flow.Step(img, l[k].At, l[k].S)
		for _, x := range to {
			if slices.ContainsFunc(l, func(p flow.Out) bool { return toldCovers(p, x) }) {
				continue
			}
			if x.At <= l[k].At {
				came[x.At]++
			}
			n, there := -1, 0
			for j := range l {
				if l[j].At == x.At {
					n, there = j, there+1
				}
			}
			if there < ways {
				l = append(l, x)
				n = len(l) - 1
			} else {
				l[n].S = grow(l[n].S, x.S, came[x.At])
			}
			todo = append(todo, n)
		}
	}
	return l
}

// grow: a state in which both are. If a way came back to it so often, no more is known of a number that differs than that it is one; of an address, which mostly grows by numbers, nothing somewhat later.
func grow(a, b api.State, times int) api.State {
	s := state.Join(a, b)
	for k, r := range s.Regs {
		switch {
		case r == a.Regs[k]:
		case r.Kind == num && times > 4:
			s.Regs[k] = anything()
		case r.Kind != num && times > 40:
			s.Regs[k] = api.Reg{}
		}
	}
	for k, x := range s.Stack {
		switch {
		case x == a.Stack[k] || x.R.Kind == none:
		case x.R.Kind == num && times > 4:
			s.Stack[k] = have(255)
		case x.R.Kind != num && times > 40:
			s.Stack[k] = have(0)
		}
	}
	return s
}

// tables: of an image's maps, with whatever in them.
func tables(t *testing.T, chance *rand.Rand, img api.Image) []*maps.Table {
	t.Helper()
	var l []*maps.Table
	for _, m := range img.Maps {
		x, e := maps.New(m)
		if e != 0 {
			t.Fatal(e)
		}
		for range chance.Intn(6) {
			key, value := make([]byte, m.Key), make([]byte, m.Value)
			key[0] = byte(chance.Intn(4))
			chance.Read(value)
			x.Update(key, value)
		}
		l = append(l, x)
	}
	return l
}

func packet(chance *rand.Rand) []byte {
	b := make([]byte, pick(chance, 0, 1, 14, longest, chance.Intn(30), chance.Intn(30), chance.Intn(1500)))
	chance.Read(b)
	return b
}

func world(chance *rand.Rand) vm.World {
	w := vm.World{Port: uint32(anyNumber(chance))}
	for range chance.Intn(4) {
		w.Times, w.Chances = append(w.Times, anyNumber(chance)), append(w.Chances, uint32(anyNumber(chance)))
	}
	return w
}

// traps: the trap of one of some runs, if one of them traps but for want of fuel.
func traps(t *testing.T, chance *rand.Rand, img api.Image, runs int) (vm.End, bool) {
	t.Helper()
	for range runs {
		x, e := vm.Exec(img, tables(t, chance, img), packet(chance), world(chance), 2000)
		if e != 0 {
			t.Fatalf("%+v: %d", img, e)
		}
		if x.Trap != 0 && x.Trap != api.TrapFuel {
			return x, true
		}
	}
	return vm.End{}, false
}
