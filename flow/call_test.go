package flow_test

import (
	"strconv"
	"testing"

	"stockade/api"
	"stockade/flow"
)

// calling: a state in which helpers on the map may be called: the key at the beginning of the slot 1, the value at that of the slot 10.
func calling(of int) api.State {
	s := with(full(), map[int]api.Reg{1: refTo(of), 2: frameAt(8), 3: frameAt(80)})
	for k := range s.Stack {
		s.Stack[k] = api.Slot{}
	}
	m := four()[of]
	return withSlots(s, filled(filled(map[int]api.Slot{}, 8, m.Key), 80, m.Value))
}

// filled: with so many bytes that hold something, from a place on.
func filled(l map[int]api.Slot, from, count int) map[int]api.Slot {
	for at := from; at < from+count; at++ {
		x := l[at/8]
		x.Have |= 1 << (at % 8)
		l[at/8] = x
	}
	return l
}

// called: what is known behind a call.
func called(s api.State, answer api.Reg) flow.Out {
	return flow.Out{At: 1, S: with(s, map[int]api.Reg{0: answer, 1: {}, 2: {}, 3: {}, 4: {}, 5: {}})}
}

func TestP13_1_CallOfTheWorld(t *testing.T) {
	for _, s := range []api.State{full(), {}, calling(2)} {
		leads(t, "call 5", s, called(s, anything()))
		leads(t, "call 7", s, called(s, numBelow(32)))
	}
}

func TestP13_1_CallOnMaps(t *testing.T) {
	for of := range 4 {
		s := calling(of)
		leads(t, "call 1", s, called(s, maybe(of)))
		leads(t, "call 2", s, called(s, anything()))
		leads(t, "call 3", s, called(s, anything()))
		s = with(s, map[int]api.Reg{3: {}}) // only an update looks at register 3
		leads(t, "call 1", s, called(s, maybe(of)))
		leads(t, "call 3", s, called(s, anything()))
		refused(t, "call 2", s, trapEmpty)
	}
}

func TestP13_1_CallReasons(t *testing.T) {
	wild := reg(frame, 0, 8, 9)
	for of := range 4 {
		for helper := 1; helper <= 3; helper++ {
			text := "call " + strconv.Itoa(helper)
			s := calling(of)
			refused(t, text, with(s, map[int]api.Reg{1: {}, 2: {}}), trapEmpty)
			for _, r := range kinds() {
				if r.Kind != ref {
					refused(t, text, with(s, map[int]api.Reg{1: r, 2: {}, 3: {}}), trapKind)
				}
				if r.Kind != frame {
					refused(t, text, with(s, map[int]api.Reg{2: r, 3: {}}), trapKind)
				}
				if r.Kind != frame && helper == 2 {
					refused(t, text, with(s, map[int]api.Reg{3: r}), trapKind)
				}
			}
			refused(t, text, with(s, map[int]api.Reg{2: {}, 3: just(4)}), trapEmpty)
			refused(t, text, with(s, map[int]api.Reg{2: wild, 3: {}}), trapWild)
			refused(t, text, with(s, map[int]api.Reg{2: reg(frame, 0, 512, 520), 3: {}}), trapWild)
			refused(t, text, with(s, map[int]api.Reg{2: reg(frame, 0, -9, -8), 3: {}}), trapWild)
			if helper == 2 {
				refused(t, text, with(s, map[int]api.Reg{3: {}}), trapEmpty)
				refused(t, text, with(s, map[int]api.Reg{3: wild}), trapWild)
			}
		}
	}
}

// Byte by byte: whichever comes first, of the key, then of the value.
func TestP13_1_CallBytes(t *testing.T) {
	maps := four()
	for of, m := range maps {
		for _, x := range []struct{ reg, from, count int }{{2, 8, m.Key}, {3, 80, m.Value}} {
			texts := []string{"call 1", "call 2", "call 3"}
			if x.reg == 3 {
				texts = texts[1:2]
			}
			for gone := x.from; gone < x.from+x.count; gone++ {
				for _, text := range texts {
					s := calling(of)
					s.Stack[gone/8].Have &^= 1 << (gone % 8)
					refused(t, text, s, trapEmpty)
					s.Stack[gone/8] = laid(context())
					refused(t, text, s, trapKind)
					s.Stack[gone/8] = laid(just(3))
					l, e := steps(t, text, s)
					if e != 0 || len(l) != 1 {
						t.Errorf("%q of a number at %d: %d", text, gone, e)
					}
				}
			}
			// nothing ahead of them, and nothing behind, is looked at
			s := calling(of)
			for k := range s.Stack {
				if s.Stack[k].Have == 0 {
					s.Stack[k] = laid(context())
				}
			}
			for _, text := range texts {
				if _, e := steps(t, text, s); e != 0 {
					t.Errorf("%q on %d: %d", text, of, e)
				}
			}
		}
	}
}

func TestP13_1_CallBounds(t *testing.T) {
	for of, m := range four() {
		all := calling(of)
		for k := range all.Stack {
			all.Stack[k] = have(255)
		}
		for from := int64(-70); from < 590; from++ {
			s := with(all, map[int]api.Reg{2: frameAt(from)})
			for _, text := range []string{"call 1", "call 2", "call 3"} {
				if from < 0 || from+int64(m.Key) > 512 {
					refused(t, text, s, trapBound)
				} else if _, e := steps(t, text, s); e != 0 {
					t.Errorf("%q with a key at %d: %d", text, from, e)
				}
			}
			s = with(all, map[int]api.Reg{3: frameAt(from)})
			if from < 0 || from+int64(m.Value) > 512 {
				refused(t, "call 2", s, trapBound)
			} else {
				leads(t, "call 2", s, called(s, anything()))
			}
		}
		for _, from := range []int64{farthest, -farthest} {
			refused(t, "call 1", with(all, map[int]api.Reg{2: frameAt(from)}), trapBound)
			refused(t, "call 2", with(all, map[int]api.Reg{3: frameAt(from)}), trapBound)
		}
	}
}

// The first byte that is none tells the reason, also where the others leave the stack.
func TestP13_1_CallFirstByte(t *testing.T) {
	s := with(withSlots(calling(3), map[int]api.Slot{63: have(255)}), map[int]api.Reg{2: frameAt(504)})
	refused(t, "call 1", s, trapBound)
	s.Stack[63].Have = 127
	refused(t, "call 1", s, trapEmpty)
	s.Stack[63] = laid(frameAt(512))
	refused(t, "call 1", s, trapKind)
	s.Stack[63] = laid(just(7))
	refused(t, "call 1", s, trapBound)
	s.Regs[2] = frameAt(-1)
	s.Stack[0] = laid(context())
	refused(t, "call 1", s, trapBound)

	two := calling(3)
	two.Stack[1], two.Stack[2] = have(127), laid(context())
	refused(t, "call 3", two, trapEmpty)
	two.Stack[1], two.Stack[2] = laid(maybe(1)), have(0)
	refused(t, "call 3", two, trapKind)
	two.Stack[1], two.Stack[2] = laid(anything()), have(254)
	refused(t, "call 3", two, trapEmpty)

	both := calling(3) // the key is looked at ahead of the value
	both.Regs[3] = just(4)
	both.Stack[1] = have(0)
	refused(t, "call 2", both, trapEmpty)
	both.Regs[2] = frameAt(-1)
	refused(t, "call 2", both, trapBound)
}
