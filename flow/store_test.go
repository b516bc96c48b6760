package flow_test

import (
	"strconv"
	"testing"

	"stockade/api"
	"stockade/flow"
)

// step: of an image that line made.
func step(img api.Image, s api.State) ([]flow.Out, api.Errno) { return flow.Step(img, aheadPlaces, s) }

// store: the line of a store of so many bytes of r3; put: of a number.
func store(size int, dst string, off int) string {
	return "store" + strconv.Itoa(8*size) + " " + dst + at(off) + ", r3"
}

func put(size int, dst string, off, n int) string {
	return "put" + strconv.Itoa(8*size) + " " + dst + at(off) + ", " + strconv.Itoa(n)
}

// The reasons that hang on kinds, in their order.
func TestP13_1_StoreKinds(t *testing.T) {
	for _, size := range sizes {
		for _, dst := range append(kinds(), api.Reg{}) {
			for _, src := range append(kinds(), api.Reg{}) {
				s := with(withPacket(full(), 0), map[int]api.Reg{2: dst, 3: src})
				var want api.Errno
				switch {
				case dst.Kind == none:
					want = trapEmpty
				case dst.Kind == num, dst.Kind == ref, dst.Kind == maybeCell:
					want = trapKind
				case src.Kind == none:
					want = trapEmpty
				case dst.Kind == ctx:
					want = trapWrite
				case dst.Kind == frame:
					continue
				case src.Kind != num:
					want = trapKind
				default:
					want = trapBound
				}
				refused(t, store(size, "r2", 300), s, want)
			}
			s := with(withPacket(full(), 0), map[int]api.Reg{2: dst})
			switch dst.Kind {
			case none:
				refused(t, put(size, "r2", 0, 1), s, trapEmpty)
			case num, ref, maybeCell:
				refused(t, put(size, "r2", 0, 1), s, trapKind)
			case ctx:
				refused(t, put(size, "r2", 0, 1), s, trapWrite)
				refused(t, put(size, "r2", 3000, 1), s, trapWrite)
			default:
				refused(t, put(size, "r2", 3000, 1), s, trapBound)
			}
		}
	}
}

// What is stored to the packet, and to a cell, changes nothing that is known.
func TestP13_1_StoreWithin(t *testing.T) {
	for _, size := range sizes {
		for _, x := range []struct {
			lo, hi int64
			off    int
			room   int
			is     bool
		}{
			{0, 0, 0, size, true}, {0, 0, 0, size - 1, false}, {0, 0, -1, 64, false}, {0, 0, 1, size, false}, {0, 0, 1, size + 1, true},
			{-1, 0, 0, 64, false}, {-1, 0, 1, 64, true}, {-5, 3, 5, 8 + size, true}, {-5, 3, 5, 7 + size, false},
			{3, 10, -3, 7 + size, true}, {3, 10, -3, 6 + size, false}, {3, 10, -4, 64, false}, {0, 0, 32767, 64, false}, {0, 0, -32768, 64, false}, {-farthest, farthest, 0, 64, false},
		} {
			for _, text := range []string{store(size, "r2", x.off), put(size, "r2", x.off, -9)} {
				img := line(t, text)
				img.Maps[3].Value = max(1, x.room)
				for _, r := range []api.Reg{pktAt(x.lo, x.hi), cellAt(3, x.lo, x.hi)} {
					s := with(withPacket(full(), x.room), map[int]api.Reg{2: r, 3: lenOf(between(0, 300))})
					if r.Kind == cell && x.room == 0 {
						continue
					}
					if r.Kind == cell {
						s.Packet = 40
					}
					l, e := step(img, s)
					switch {
					case !x.is && (e != trapBound || len(l) > 0):
						t.Errorf("%q of %+v: %d", text, r, e)
					case x.is && (e != 0 || len(l) != 1 || l[0].At != aheadPlaces+1):
						t.Errorf("%q of %+v: %d, %d states", text, r, e, len(l))
					case x.is:
						differ(t, text, l[0].S, s)
					}
				}
			}
		}
	}
}

func TestP13_1_StoreRooms(t *testing.T) {
	for k, m := range four() {
		s := with(withPacket(full(), 0), map[int]api.Reg{2: cellAt(k, int64(m.Value-1), int64(m.Value-1)), 3: just(1)})
		leads(t, store(1, "r2", 0), s, flow.Out{At: 1, S: s})
		refused(t, store(1, "r2", 1), s, trapBound)
		refused(t, put(2, "r2", 0, 1), s, trapBound)
		leads(t, put(2, "r2", -1, 1), s, flow.Out{At: 1, S: s})
	}
}

// The reasons of a store to the stack, in their order: wild, bound, align, and the kind of what is laid.
func TestP13_1_StoreToFrameReasons(t *testing.T) {
	for _, x := range []struct {
		lo, hi int64
		size   int
		off    int
		want   api.Errno
	}{
		{512, 513, 8, -8, trapWild}, {512, 513, 8, 9, trapWild}, {0, 1, 1, 0, trapWild}, {-farthest, farthest, 4, 0, trapWild},
		{512, 512, 1, 0, trapBound}, {512, 512, 8, -7, trapBound}, {512, 512, 4, -3, trapBound}, {512, 512, 2, -1, trapBound}, {0, 0, 1, -1, trapBound}, {0, 0, 8, -8, trapBound}, {farthest, farthest, 8, 0, trapBound}, {-farthest, -farthest, 8, 0, trapBound}, {0, 0, 4, 32767, trapBound}, {0, 0, 4, -32768, trapBound},
		{512, 512, 8, -9, trapAlign}, {512, 512, 8, -12, trapAlign}, {512, 512, 4, -6, trapAlign}, {512, 512, 2, -3, trapAlign}, {1, 1, 8, 0, trapAlign}, {1, 1, 8, 1, trapAlign}, {3, 3, 2, 0, trapAlign},
		{512, 512, 4, -8, trapKind}, {512, 512, 2, -8, trapKind}, {512, 512, 1, -1, trapKind}, {0, 0, 4, 0, trapKind}, {0, 0, 1, 0, trapKind},
	} {
		for _, what := range []api.Reg{context(), pktAt(0, 3), frameAt(512), refTo(1), cellAt(1, 0, 0), maybe(1)} {
			s := with(full(), map[int]api.Reg{2: reg(frame, 0, x.lo, x.hi), 3: what})
			refused(t, store(x.size, "r2", x.off), s, x.want)
			if x.want != trapKind {
				refused(t, store(x.size, "r2", x.off), with(s, map[int]api.Reg{3: just(4)}), x.want)
				refused(t, put(x.size, "r2", x.off, 0), s, x.want)
			}
			refused(t, store(x.size, "r2", x.off), with(s, map[int]api.Reg{3: {}}), trapEmpty)
		}
	}
}

// befores: what a slot may be ahead of a store.
func befores() []api.Slot {
	l := []api.Slot{have(0), have(1), have(15), have(240), have(90), have(255)}
	for _, r := range kinds() {
		l = append(l, laid(r))
	}
	return l
}

// Eight bytes: the slot is what is laid, whatever was there, with its Len.
func TestP13_1_StoreOfEight(t *testing.T) {
	for _, was := range befores() {
		for _, k := range []int{0, 5, 63} {
			for _, what := range kinds() {
				s := withSlots(with(full(), map[int]api.Reg{3: what}), map[int]api.Slot{k: was})
				leads(t, store(8, "r10", 8*k-512), s, flow.Out{At: 1, S: withSlots(s, map[int]api.Slot{k: laid(what)})})
			}
			s := withSlots(full(), map[int]api.Slot{k: was})
			leads(t, put(8, "r10", 8*k-512, 7), s, flow.Out{At: 1, S: withSlots(s, map[int]api.Slot{k: laid(just(7))})})
			leads(t, put(8, "r10", 8*k-512, -1), s, flow.Out{At: 1, S: withSlots(s, map[int]api.Slot{k: laid(just(top))})})
			leads(t, put(8, "r10", 8*k-512, -2147483648), s, flow.Out{At: 1, S: withSlots(s, map[int]api.Slot{k: laid(just(1<<64 - 1<<31))})})
		}
	}
	s := full()
	leads(t, "store64 r10-8, r10", s, flow.Out{At: 1, S: withSlots(s, map[int]api.Slot{63: laid(frameAt(512))})})
	leads(t, "store64 r8-8, r8", s, flow.Out{At: 1, S: withSlots(s, map[int]api.Slot{4: laid(frameAt(40))})})
}

// Fewer: of an address nothing is left, of a number all, of bytes those that held something; and what is stored to.
func TestP13_1_StoreOfFewer(t *testing.T) {
	for _, was := range befores() {
		left := was.Have
		if was.R.Kind > num {
			left = 0
		}
		for _, k := range []int{0, 5, 63} {
			s := withSlots(with(full(), map[int]api.Reg{3: lenOf(between(0, 300))}), map[int]api.Slot{k: was})
			for _, size := range sizes[:3] {
				for from := 0; from < 8; from += size {
					bits := byte((1<<size - 1) << from)
					want := flow.Out{At: 1, S: withSlots(s, map[int]api.Slot{k: have(left | bits)})}
					leads(t, store(size, "r10", 8*k-512+from), s, want)
					leads(t, put(size, "r10", 8*k-512+from, 7), s, want)
				}
			}
		}
	}
}
