package flow_test

import (
	"math/rand"
	"strconv"
	"testing"

	"stockade/api"
	"stockade/flow"
	"stockade/scalar"
	"stockade/word"
)

// conditions: names by their numbers.
func conditions() map[int]string {
	return map[int]string{1: "jeq", 2: "jgt", 3: "jge", 4: "jset", 5: "jne", 6: "jsgt", 7: "jsge", 10: "jlt", 11: "jle", 12: "jslt", 13: "jsle"}
}

func TestP13_1_JumpReasons(t *testing.T) {
	for op, name := range conditions() {
		for bits, wide := range map[string]bool{"64": true, "32": false} {
			byReg, byNought, byOne := name+bits+" r2, r3, +1", name+bits+" r2, 0, +1", name+bits+" r2, 1, +1"
			for _, a := range append(kinds(), api.Reg{}) {
				s := with(full(), map[int]api.Reg{2: a})
				switch {
				case a.Kind == none:
					refused(t, byNought, s, trapEmpty)
					refused(t, byOne, s, trapEmpty)
				case a.Kind != num:
					refused(t, byOne, s, trapKind)
					refused(t, name+bits+" r2, r2, +1", s, trapKind)
					if !wide || op != 1 && op != 5 {
						refused(t, byNought, s, trapKind)
					}
				}
				for _, b := range append(kinds(), api.Reg{}) {
					s := with(s, map[int]api.Reg{3: b})
					switch {
					case a.Kind == none || b.Kind == none:
						refused(t, byReg, s, trapEmpty)
					case a.Kind != num || b.Kind != num:
						refused(t, byReg, s, trapKind)
					}
				}
				if a.Kind != none && a.Kind != num { // a register that is 0 is not the number 0
					refused(t, byReg, with(s, map[int]api.Reg{3: just(0)}), trapKind)
				}
			}
		}
	}
}

func TestP13_1_JumpOfAddress(t *testing.T) {
	for _, r := range kinds() {
		s := with(full(), map[int]api.Reg{2: r})
		switch r.Kind {
		case num:
		case maybeCell:
			is, not := with(s, map[int]api.Reg{2: just(0)}), with(s, map[int]api.Reg{2: cellAt(r.Map, 0, 0)})
			leads(t, "jeq64 r2, 0, +2", s, flow.Out{At: 1, S: not}, flow.Out{At: 3, S: is})
			leads(t, "jne64 r2, 0, +2", s, flow.Out{At: 1, S: is}, flow.Out{At: 3, S: not})
			leads(t, "jeq64 r2, 0, +0", s, flow.Out{At: 1, S: not}, flow.Out{At: 1, S: is})
			leads(t, "jne64 r2, 0, -2", s, flow.Out{At: 1, S: is}, flow.Out{At: -1, S: not})
		default:
			leads(t, "jeq64 r2, 0, +2", s, flow.Out{At: 1, S: s})
			leads(t, "jne64 r2, 0, +2", s, flow.Out{At: 3, S: s})
			leads(t, "jne64 r2, 0, +0", s, flow.Out{At: 1, S: s})
		}
	}
	// of register 0, which is Src where there is none
	s := with(full(), map[int]api.Reg{0: maybe(3)})
	leads(t, "jne64 r0, 0, +1", s, flow.Out{At: 1, S: with(s, map[int]api.Reg{0: just(0)})}, flow.Out{At: 2, S: with(s, map[int]api.Reg{0: cellAt(3, 0, 0)})})
	// a MaybeCell that is not asked stays one
	s = with(full(), map[int]api.Reg{2: maybe(1), 5: maybe(1)})
	leads(t, "jeq64 r2, 0, +1", s, flow.Out{At: 1, S: with(s, map[int]api.Reg{2: cellAt(1, 0, 0)})}, flow.Out{At: 2, S: with(s, map[int]api.Reg{2: just(0)})})
}

func TestP13_1_JumpOfNumbers(t *testing.T) {
	byte8, nine := numBelow(8), just(9)
	for _, x := range []struct {
		text     string
		a        api.Reg
		not, yes []api.Reg // what is known of the register where it does not hold, where it does; none, if it can't be so
	}{
		{"jeq64 r2, 9, +1", byte8, []api.Reg{byte8}, []api.Reg{nine}},
		{"jne64 r2, 9, +1", byte8, []api.Reg{nine}, []api.Reg{byte8}},
		{"jne64 r2, 0, +1", byte8, []api.Reg{just(0)}, []api.Reg{numOf(both(0, 255, 1, 255))}},
		{"jeq64 r2, 9, +1", nine, nil, []api.Reg{nine}},
		{"jne64 r2, 9, +1", nine, []api.Reg{nine}, nil},
		{"jeq64 r2, 8, +1", nine, []api.Reg{nine}, nil},
		{"jgt64 r2, 9, +1", byte8, []api.Reg{numOf(both(0, 15, 0, 9))}, []api.Reg{numOf(both(0, 255, 10, 255))}},
		{"jge64 r2, 9, +1", byte8, []api.Reg{numOf(both(0, 15, 0, 8))}, []api.Reg{numOf(both(0, 255, 9, 255))}},
		{"jlt64 r2, 9, +1", byte8, []api.Reg{numOf(both(0, 255, 9, 255))}, []api.Reg{numOf(both(0, 15, 0, 8))}},
		{"jle64 r2, 9, +1", byte8, []api.Reg{numOf(both(0, 255, 10, 255))}, []api.Reg{numOf(both(0, 15, 0, 9))}},
		{"jsgt64 r2, 9, +1", byte8, []api.Reg{numOf(both(0, 15, 0, 9))}, []api.Reg{numOf(both(0, 255, 10, 255))}},
		{"jslt64 r2, -1, +1", byte8, []api.Reg{byte8}, []api.Reg{byte8}},
		{"jgt64 r2, 255, +1", byte8, []api.Reg{byte8}, nil},
		{"jgt32 r2, 255, +1", byte8, []api.Reg{byte8}, nil},
		{"jle64 r2, 255, +1", byte8, nil, []api.Reg{byte8}},
		{"jgt64 r2, -1, +1", anything(), []api.Reg{anything()}, nil},
		{"jgt32 r2, 9, +1", anything(), []api.Reg{anything()}, []api.Reg{anything()}},
		{"jeq32 r2, 9, +1", just(1<<32 + 9), []api.Reg{just(1<<32 + 9)}, []api.Reg{just(1<<32 + 9)}},
		{"jset64 r2, 8, +1", byte8, []api.Reg{numOf(both(0, 247, 0, 247))}, []api.Reg{byte8}},
		{"jset64 r2, 8, +1", nine, nil, []api.Reg{nine}},
		{"jset64 r2, 2, +1", nine, []api.Reg{nine}, nil},
		{"jset64 r2, 0, +1", byte8, []api.Reg{byte8}, nil},
	} {
		var want []flow.Out
		s := with(full(), map[int]api.Reg{2: x.a})
		for _, r := range x.not {
			want = append(want, flow.Out{At: 1, S: with(s, map[int]api.Reg{2: r})})
		}
		for _, r := range x.yes {
			want = append(want, flow.Out{At: 2, S: with(s, map[int]api.Reg{2: r})})
		}
		leads(t, x.text, s, want...)
	}
	// what holds no number may have no state at all
	hollow := numOf(both(3, 8, 4, 10))
	s := with(full(), map[int]api.Reg{2: hollow})
	leads(t, "jset64 r2, 1, +1", s, flow.Out{At: 2, S: s})
	leads(t, "jeq64 r2, 20, +1", s, flow.Out{At: 1, S: s})
}

// Both registers, if the other one is a register, too.
func TestP13_1_JumpOfTwo(t *testing.T) {
	s := with(full(), map[int]api.Reg{2: numOf(between(0, 20)), 3: numOf(between(10, 40))})
	leads(t, "jlt64 r2, r3, +1", s,
		flow.Out{At: 1, S: with(s, map[int]api.Reg{2: numOf(between(10, 20)), 3: numOf(between(10, 20))})},
		flow.Out{At: 2, S: s})
	leads(t, "jgt64 r2, r3, +1", s,
		flow.Out{At: 1, S: s},
		flow.Out{At: 2, S: with(s, map[int]api.Reg{2: numOf(between(11, 20)), 3: numOf(between(10, 19))})})
	leads(t, "jge64 r3, r2, +2", s,
		flow.Out{At: 1, S: with(s, map[int]api.Reg{2: numOf(between(11, 20)), 3: numOf(between(10, 19))})},
		flow.Out{At: 3, S: s})
	leads(t, "jeq64 r2, r3, +1", s,
		flow.Out{At: 1, S: s},
		flow.Out{At: 2, S: with(s, map[int]api.Reg{2: numOf(between(10, 20)), 3: numOf(between(10, 20))})})
}

// The packet's length: where a register that is it has been narrowed, so has Packet.
func TestP13_1_JumpOfLength(t *testing.T) {
	length := lenOf(between(0, longest))
	s := with(withPacket(full(), 0), map[int]api.Reg{2: length, 3: numOf(between(10, 40))})
	below := with(s, map[int]api.Reg{2: lenOf(between(0, 13))})
	above := withPacket(with(s, map[int]api.Reg{2: lenOf(between(14, longest))}), 14)
	leads(t, "jlt64 r2, 14, +1", s, flow.Out{At: 1, S: above}, flow.Out{At: 2, S: below})
	leads(t, "jlt32 r2, 14, +1", s, flow.Out{At: 1, S: above}, flow.Out{At: 2, S: below})
	leads(t, "jsge64 r2, 14, +1", s, flow.Out{At: 1, S: below}, flow.Out{At: 2, S: above})
	is := withPacket(with(s, map[int]api.Reg{2: lenOf(between(60, 60))}), 60)
	not := s
	leads(t, "jeq64 r2, 60, +1", s, flow.Out{At: 1, S: not}, flow.Out{At: 2, S: is})
	leads(t, "jne64 r2, 60, +1", s, flow.Out{At: 1, S: is}, flow.Out{At: 2, S: not})

	// Packet is never less than it was
	far := withPacket(s, 50)
	leads(t, "jge64 r2, 14, +1", far,
		flow.Out{At: 1, S: withPacket(below, 50)},
		flow.Out{At: 2, S: withPacket(above, 50)})

	// a number that is no length tells nothing of the packet
	plain := with(s, map[int]api.Reg{2: numOf(between(0, longest))})
	leads(t, "jge64 r2, 14, +1", plain,
		flow.Out{At: 1, S: with(plain, map[int]api.Reg{2: numOf(between(0, 13))})},
		flow.Out{At: 2, S: with(plain, map[int]api.Reg{2: numOf(between(14, longest))})})

	// as Src, and held against a number that is not single
	leads(t, "jle64 r3, r2, +1", s,
		flow.Out{At: 1, S: with(s, map[int]api.Reg{2: lenOf(between(0, 39))})},
		flow.Out{At: 2, S: withPacket(with(s, map[int]api.Reg{2: lenOf(between(10, longest))}), 10)})
	leads(t, "jeq64 r3, r2, +1", s,
		flow.Out{At: 1, S: s},
		flow.Out{At: 2, S: withPacket(with(s, map[int]api.Reg{2: lenOf(between(10, 40)), 3: numOf(between(10, 40))}), 10)})

	// both: the greater one of their least numbers, whichever it is
	two := with(s, map[int]api.Reg{2: lenOf(between(5, 100)), 3: lenOf(between(30, 80))})
	leads(t, "jgt64 r2, r3, +1", two,
		flow.Out{At: 1, S: withPacket(with(two, map[int]api.Reg{2: lenOf(between(5, 80))}), 30)},
		flow.Out{At: 2, S: withPacket(with(two, map[int]api.Reg{2: lenOf(between(31, 100))}), 31)})
	leads(t, "jlt64 r3, r2, +1", two,
		flow.Out{At: 1, S: withPacket(with(two, map[int]api.Reg{2: lenOf(between(5, 80))}), 30)},
		flow.Out{At: 2, S: withPacket(with(two, map[int]api.Reg{2: lenOf(between(31, 100))}), 31)})

	// a register that is not asked, though it is the length, raises nothing
	other := with(s, map[int]api.Reg{2: length, 7: lenOf(between(20, 90))})
	leads(t, "jge64 r2, 14, +1", other,
		flow.Out{At: 1, S: with(other, map[int]api.Reg{2: lenOf(between(0, 13))})},
		flow.Out{At: 2, S: withPacket(with(other, map[int]api.Reg{2: lenOf(between(14, longest))}), 14)})

	// nothing is refined, and the least number counts all the same
	known := with(s, map[int]api.Reg{2: lenOf(between(20, 90)), 3: anything()})
	leads(t, "jne32 r2, r3, +1", known,
		flow.Out{At: 1, S: withPacket(known, 20)},
		flow.Out{At: 2, S: withPacket(known, 20)})

	// the least number is the span's, also where the bits leave it out
	odd := with(s, map[int]api.Reg{2: lenOf(both(1, 6, 2, 6))})
	leads(t, "jeq64 r2, 0, +1", odd, flow.Out{At: 1, S: withPacket(odd, 2)})
}

// A register held against itself stays, and so does Packet; without Reg there is no other register.
func TestP13_1_JumpOfOneTwice(t *testing.T) {
	s := with(withPacket(full(), 3), map[int]api.Reg{0: lenOf(between(10, 40)), 7: lenOf(between(20, 90))})
	for name, want := range map[string][]int{"jeq": {1, 2}, "jne": {1, 2}, "jge": {1, 2}, "jle": {1, 2}, "jgt": {1, 2}, "jlt": {1, 2}, "jsle": {1, 2}, "jset": {1, 2}} {
		var outs []flow.Out
		for _, at := range want {
			outs = append(outs, flow.Out{At: at, S: s})
		}
		leads(t, name+"64 r7, r7, +1", s, outs...)
		leads(t, name+"32 r7, r7, +1", s, outs...)
		leads(t, name+"64 r0, r0, +1", s, outs...)
	}
	single := with(s, map[int]api.Reg{7: lenOf(between(20, 20))})
	leads(t, "jeq64 r7, r7, +1", single, flow.Out{At: 2, S: single})
	leads(t, "jne64 r7, r7, +1", single, flow.Out{At: 1, S: single})
	leads(t, "jgt64 r7, r7, +1", single, flow.Out{At: 1, S: single})
	leads(t, "jge64 r0, 20, +1", s,
		flow.Out{At: 1, S: withPacket(with(s, map[int]api.Reg{0: lenOf(between(10, 19))}), 10)},
		flow.Out{At: 2, S: withPacket(with(s, map[int]api.Reg{0: lenOf(between(20, 40))}), 20)})
}

// Two numbers by each condition, wide and not, by a register and without: scalar.Refine's answers, each at its place.
func TestP13_1_JumpIsRefine(t *testing.T) {
	chance := rand.New(rand.NewSource(133))
	for op, name := range conditions() {
		for range 150 {
			n := anyNumber(chance)
			a, b := around(chance, n), around(chance, pick(chance, n, n, anyNumber(chance)))
			imm := int32(pick(chance, n, anyNumber(chance)))
			s := with(full(), map[int]api.Reg{2: numOf(a), 3: numOf(b)})
			for bits, wide := range map[string]bool{"64": true, "32": false} {
				var two, one []flow.Out
				for k, holds := range []bool{false, true} {
					if x, y, is := scalar.Refine(op, wide, a, b, holds); is {
						two = append(two, flow.Out{At: 1 + 2*k, S: with(s, map[int]api.Reg{2: numOf(x), 3: numOf(y)})})
					}
					if x, _, is := scalar.Refine(op, wide, a, scalar.Of(word.Ext(imm)), holds); is {
						one = append(one, flow.Out{At: 1 + 2*k, S: with(s, map[int]api.Reg{2: numOf(x)})})
					}
				}
				leads(t, name+bits+" r2, r3, +2", s, two...)
				leads(t, name+bits+" r2, "+strconv.Itoa(int(imm))+", +2", s, one...)
			}
		}
	}
}
