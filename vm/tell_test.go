package vm_test

import (
	"math"
	"testing"

	"stockade/api"
	"stockade/mem"
	"stockade/vm"
)

// Nil machines, and such as no call made.
func TestP8_3_NoMachine(t *testing.T) {
	var nobody *vm.Machine
	if over, e := nobody.Trap(); over || e != 0 {
		t.Error(over, e)
	}
	for _, m := range []*vm.Machine{nobody, {}, new(vm.Machine)} {
		for range 2 {
			if m.Step() || m.At() != 0 || m.Steps() != 0 || m.Frame() != (mem.Frame{}) || len(m.Packet()) != 0 {
				t.Error(m.At(), m.Steps(), m.Packet())
			}
			if over, _ := m.Trap(); over {
				t.Error("no run is over")
			}
			for r := -2; r < 13; r++ {
				if m.Reg(r) != (api.Value{}) {
					t.Error(r, m.Reg(r))
				}
			}
		}
	}
}

func TestP8_3_Reg(t *testing.T) {
	text := "const r0, 10\nconst r2, 12\nconst r3, 13\nconst r4, 14\nconst r5, 15\nconst r6, 16\nconst r7, 17\nconst r8, 18\nconst r9, 19\nexit\n"
	m, _ := ended(t, text, nil, vm.World{})
	for r := range 11 {
		want := n(10 + uint64(r))
		switch r {
		case 1:
			want = ctxAt(0)
		case 10:
			want = frameAt(512)
		}
		if m.Reg(r) != want {
			t.Error(r, m.Reg(r))
		}
	}
	for _, r := range []int{-1, -2, 11, 12, 16, 255, 256, 1 << 32, -1 << 32, 1<<32 + 1, math.MaxInt, math.MinInt} {
		if m.Reg(r) != (api.Value{}) {
			t.Error(r, m.Reg(r))
		}
	}
}

// What comes next, how many were done, whether it is over: instruction by instruction.
func TestP8_3_AtAndSteps(t *testing.T) {
	for k, x := range []struct {
		text string
		at   []int // ahead of each step, and behind the last one
		trap api.Errno
	}{
		{"mov64 r0, 7\nexit\n", []int{0, 1, 1}, 0},
		{"exit\n", []int{0, 0}, trapEmpty},
		{"mov64 r0, r1\nexit\n", []int{0, 1, 1}, trapKind},
		{"const r0, 1\nmap r2, 0\nmov64 r3, 1\nexit\n", []int{0, 2, 4, 5, 5}, 0},
		{"mov64 r0, 1\ngoto +2\nexit\nexit\nmov64 r2, r3\nexit\n", []int{0, 1, 4, 4}, trapEmpty},
		{"mov64 r0, 3\nsub64 r0, 1\njne64 r0, 0, -2\nexit\n", []int{0, 1, 2, 1, 2, 1, 2, 3, 3}, 0},
		{"goto +3\nconst r0, 1\nexit\ngoto -4\n", []int{0, 4, 1, 3, 3}, 0},
		{"mov64 r0, 1\ncall 5\nadd64 r1, 1\nexit\n", []int{0, 1, 2, 2}, trapEmpty},
		{"store64 r10-8, r1\nload64 r2, r10-8\nload32 r2, r10-8\nexit\n", []int{0, 1, 2, 2}, trapKind},
		{"mov64 r0, 1\njeq64 r0, 2, +1\njeq64 r0, 1, +1\nmov64 r0, 9\nexit\n", []int{0, 1, 2, 4, 4}, 0},
	} {
		m, _ := begin(t, x.text, nil, vm.World{})
		last := len(x.at) - 1
		for step, at := range x.at[:last] {
			over, trap := m.Trap()
			if m.At() != at || m.Steps() != step || over || trap != 0 {
				t.Errorf("row %d: ahead of step %d: %d, %d, %v, %d", k, step, m.At(), m.Steps(), over, trap)
			}
			if !m.Step() {
				t.Errorf("row %d: step %d: false", k, step)
			}
		}
		done := last
		if x.trap != 0 {
			done--
		}
		for range 3 {
			if over, trap := m.Trap(); m.At() != x.at[last] || m.Steps() != done || !over || trap != x.trap {
				t.Errorf("row %d: %d, %d, %v, %d", k, m.At(), m.Steps(), over, trap)
			}
			if m.Step() {
				t.Errorf("row %d: a step of a run that is over", k)
			}
		}
	}
}

// R3: what Packet hands out is new memory, and tells what was there then.
func TestP8_3_NewMemory(t *testing.T) {
	packet := append(make([]byte, 0, 64), "abcd"...)
	m, _ := begin(t, "load64 r6, r1+8\nput8 r6+1, 120\nload8 r0, r6+1\nexit\n", packet, vm.World{})
	first, frame := m.Packet(), m.Frame()
	for m.Step() {
		l := m.Packet()
		for k := range l[:cap(l)] {
			l[:cap(l)][k] ^= 255
		}
	}
	if string(first) != "abcd" || string(m.Packet()) != "axcd" || string(packet[:5]) != "abcd\x00" || m.Reg(0) != n(120) || m.Frame() != frame {
		t.Error(first, m.Packet(), packet, m.Reg(0))
	}
	frame[0] = mem.Slot{Have: 255, V: ctxAt(0)}
	if m.Frame() == frame {
		t.Error("the frame is no value")
	}
}

func TestP8_3_Frame(t *testing.T) {
	m, _ := ended(t, "put64 r10-8, -2\nput8 r10-512, 255\nput16 r10-510, 258\nstore64 r10-24, r10\nstore64 r10-32, r1\nput32 r10-32, 5\nmov64 r0, 0\nexit\n", nil, vm.World{})
	var want mem.Frame
	want[63] = mem.Slot{Have: 255, B: [8]byte{254, 255, 255, 255, 255, 255, 255, 255}}
	want[0] = mem.Slot{Have: 1 | 4 | 8, B: [8]byte{255, 0, 2, 1}}
	want[61] = mem.Slot{Have: 255, V: frameAt(512)}
	want[60] = mem.Slot{Have: 15, B: [8]byte{5}}
	if m.Frame() != want {
		t.Errorf("%+v", m.Frame())
	}
}
