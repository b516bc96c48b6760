package flow_test

import (
	"strconv"
	"testing"

	"stockade/api"
)

// at: an offset as text.
func at(off int) string {
	if off < 0 {
		return strconv.Itoa(off)
	}
	return "+" + strconv.Itoa(off)
}

// load: the line of a load of so many bytes to r6.
func load(size int, src string, off int) string {
	return "load" + strconv.Itoa(8*size) + " r6, " + src + at(off)
}

var sizes = []int{1, 2, 4, 8}

func TestP13_1_LoadKinds(t *testing.T) {
	for _, size := range sizes {
		refused(t, load(size, "r2", 0), with(full(), map[int]api.Reg{2: {}}), trapEmpty)
		for _, r := range []api.Reg{just(0), anything(), lenOf(between(0, 9)), refTo(0), refTo(3), maybe(0), maybe(3)} {
			refused(t, load(size, "r2", 0), with(full(), map[int]api.Reg{2: r}), trapKind)
			refused(t, load(size, "r2", -600), with(full(), map[int]api.Reg{2: r}), trapKind)
		}
	}
}

func TestP13_1_LoadOfContext(t *testing.T) {
	for _, packet := range []int{0, 1, 14, 255, 256, 32768, 65534, 65535} {
		s := withPacket(full(), packet)
		s.Regs[2] = context()
		makes(t, load(4, "r2", 0), s, 6, lenOf(between(uint64(packet), 65535)))
		makes(t, load(4, "r2", 4), s, 6, numBelow(32))
		makes(t, load(8, "r2", 8), s, 6, pktAt(0, 0))
		makes(t, "load32 r2, r2+0", s, 2, lenOf(between(uint64(packet), 65535)))
		makes(t, "load64 r2, r2+8", s, 2, pktAt(0, 0))
	}
	makes(t, load(4, "r1", 0), withPacket(full(), 65535), 6, lenOf(both(65535, 0, 65535, 65535)))
	makes(t, load(4, "r1", 0), withPacket(full(), 32770), 6, lenOf(both(32768, 32767, 32770, 65535)))
	good := map[[2]int]bool{{4, 0}: true, {4, 4}: true, {8, 8}: true}
	for _, size := range sizes {
		for off := -20; off < 20; off++ {
			if !good[[2]int{size, off}] {
				refused(t, load(size, "r1", off), full(), trapBound)
			}
		}
		for _, off := range []int{-32768, -512, 32767, 256} {
			refused(t, load(size, "r1", off), full(), trapBound)
		}
	}
}

func TestP13_1_LoadWithin(t *testing.T) {
	for _, size := range sizes {
		for _, x := range []struct {
			lo, hi int64
			off    int
			room   int
			is     bool
		}{
			{0, 0, 0, size, true}, {0, 0, 0, size - 1, false}, {0, 0, 0, 64, true}, {0, 0, -1, 64, false}, {0, 0, 1, size, false}, {0, 0, 1, size + 1, true},
			{-1, 0, 0, 64, false}, {-1, 0, 1, 64, true}, {-5, 3, 5, 8 + size, true}, {-5, 3, 5, 7 + size, false}, {-5, 3, 4, 64, false},
			{0, 10, 0, 10 + size, true}, {0, 10, 0, 9 + size, false}, {3, 10, -3, 7 + size, true}, {3, 10, -3, 6 + size, false}, {3, 10, -4, 64, false},
			{64, 64, -64, size, true}, {64, 64, 0, 64, false}, {65, 65, -65, size, true}, {0, 0, 32767, 64, false}, {0, 0, -32768, 64, false},
			{farthest, farthest, 0, 64, false}, {-farthest, -farthest, 0, 64, false}, {-farthest, farthest, 0, 64, false}, {0, farthest, 0, 64, false}, {-farthest, 0, 0, 64, false},
		} {
			s := withPacket(full(), x.room)
			s.Regs[2] = pktAt(x.lo, x.hi)
			row := load(size, "r2", x.off)
			if x.is {
				makes(t, row, s, 6, numBelow(8*size))
			} else {
				refused(t, row, s, trapBound)
			}
			if x.room > 0 {
				s.Regs[2] = cellAt(3, x.lo, x.hi)
				s.Packet = 40
				withinCell(t, row, s, x.room, x.is, size)
			}
		}
	}
}

// withinCell: whether a load of a cell is one, where the values of map 3 have so many bytes.
func withinCell(t *testing.T, text string, s api.State, value int, is bool, size int) {
	t.Helper()
	img := line(t, text)
	img.Maps[3].Value = value
	l, e := step(img, s)
	switch {
	case !is && e != trapBound:
		t.Errorf("%q of %+v: %d", text, s.Regs[2], e)
	case is && (e != 0 || len(l) != 1):
		t.Errorf("%q of %+v: %d, %d states", text, s.Regs[2], e, len(l))
	case is:
		differ(t, text, l[0].S, with(s, map[int]api.Reg{6: numBelow(8 * size)}))
	}
}

// Only what is known of the packet's length counts, not what may be; and of a cell its own map.
func TestP13_1_LoadRooms(t *testing.T) {
	s := with(withPacket(full(), 65535), map[int]api.Reg{2: pktAt(65527, 65527)})
	makes(t, load(8, "r2", 0), s, 6, anything())
	refused(t, load(8, "r2", 1), s, trapBound)
	refused(t, load(1, "r2", 0), withPacket(s, 65527), trapBound)
	makes(t, load(1, "r2", 0), withPacket(s, 65528), 6, numBelow(8))
	for k, m := range four() {
		s := with(withPacket(full(), 0), map[int]api.Reg{2: cellAt(k, int64(m.Value-1), int64(m.Value-1))})
		makes(t, load(1, "r2", 0), s, 6, numBelow(8))
		refused(t, load(1, "r2", 1), s, trapBound)
		refused(t, load(2, "r2", 0), s, trapBound)
		makes(t, load(2, "r2", -1), s, 6, numBelow(16))
	}
	s = with(withPacket(full(), 8), map[int]api.Reg{2: pktAt(-1, 5)})
	refused(t, load(1, "r2", 0), s, trapBound)
	makes(t, load(1, "r2", 1), s, 6, numBelow(8))
	refused(t, load(1, "r2", 3), s, trapBound)
}

// The reasons of a load of the stack, in their order: wild, bound, align, then what lies there.
func TestP13_1_LoadOfFrameReasons(t *testing.T) {
	empty := withSlots(full(), map[int]api.Slot{0: {}, 63: {}, 62: {}})
	for _, x := range []struct {
		lo, hi int64
		size   int
		off    int
		want   api.Errno
	}{
		{512, 513, 8, -8, trapWild}, {512, 513, 8, 9, trapWild}, {-1, 0, 1, 0, trapWild}, {0, 8, 8, 0, trapWild}, {-farthest, farthest, 1, 0, trapWild},
		{512, 512, 1, 0, trapBound}, {512, 512, 8, -7, trapBound}, {512, 512, 4, -3, trapBound}, {512, 512, 2, -1, trapBound}, {512, 512, 1, -513, trapBound}, {512, 512, 8, -513, trapBound}, {0, 0, 8, -1, trapBound}, {0, 0, 1, -1, trapBound}, {-1, -1, 1, 0, trapBound}, {farthest, farthest, 1, 0, trapBound}, {-farthest, -farthest, 1, 0, trapBound}, {0, 0, 4, 32767, trapBound}, {0, 0, 4, -32768, trapBound},
		{512, 512, 8, -9, trapAlign}, {512, 512, 8, -12, trapAlign}, {512, 512, 4, -6, trapAlign}, {512, 512, 2, -3, trapAlign}, {0, 0, 8, 4, trapAlign}, {1, 1, 8, 0, trapAlign}, {1, 1, 2, 0, trapAlign}, {500, 500, 8, 0, trapAlign},
		{512, 512, 8, -8, trapEmpty}, {512, 512, 4, -4, trapEmpty}, {512, 512, 2, -2, trapEmpty}, {512, 512, 1, -1, trapEmpty}, {0, 0, 8, 0, trapEmpty}, {1, 1, 1, -1, trapEmpty}, {-8, -8, 8, 8, trapEmpty}, {520, 520, 8, -16, trapEmpty}, {1, 1, 8, 8, trapAlign},
	} {
		s := with(empty, map[int]api.Reg{2: reg(frame, 0, x.lo, x.hi)})
		refused(t, load(x.size, "r2", x.off), s, x.want)
	}
}

func TestP13_1_LoadOfBytes(t *testing.T) {
	for bits := range 256 {
		s := withSlots(full(), map[int]api.Slot{7: have(byte(bits))})
		for _, size := range sizes {
			for from := 0; from < 8; from += size {
				row := load(size, "r10", -512+56+from)
				mask := (1<<size - 1) << from
				if bits&mask == mask {
					makes(t, row, s, 6, numBelow(8*size))
				} else {
					refused(t, row, s, trapEmpty)
				}
			}
		}
	}
}

func TestP13_1_LoadOfWhatWasLaid(t *testing.T) {
	for _, r := range kinds() {
		for _, k := range []int{0, 5, 63} {
			s := withSlots(full(), map[int]api.Slot{k: laid(r)})
			makes(t, load(8, "r10", 8*k-512), s, 6, r)
			for _, size := range sizes[:3] {
				for from := 0; from < 8; from += size {
					row := load(size, "r10", 8*k-512+from)
					if r.Kind == num {
						makes(t, row, s, 6, numBelow(8*size))
					} else {
						refused(t, row, s, trapKind)
					}
				}
			}
		}
	}
	s := withSlots(with(full(), map[int]api.Reg{6: frameAt(40)}), map[int]api.Slot{5: laid(pktAt(1, 2)), 4: {}, 6: {}})
	makes(t, "load64 r6, r6+0", s, 6, pktAt(1, 2))
	refused(t, "load64 r6, r6+8", s, trapEmpty)
	refused(t, "load64 r6, r6-8", s, trapEmpty)
}
