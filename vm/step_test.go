package vm_test

import (
	"testing"

	"stockade/api"
	"stockade/vm"
)

// ahead: what makes a value of each kind to be had: r6 is a Ctx, r7 a Cell of map 1, r8 a Pkt; 1 to 5 and 9 are None, r0 a Cell.
const ahead = "mov64 r6, r1\nput8 r10-1, 7\nput16 r10-4, 770\nmov64 r2, r10\nadd64 r2, -1\nmov64 r3, r10\nadd64 r3, -4\nmap r1, 1\ncall 2\n" +
	"mov64 r2, r10\nadd64 r2, -1\nmap r1, 1\ncall 1\nmov64 r7, r0\nload64 r8, r6+8\n"

// gets: a line that puts a value of a kind into a register (none for None).
func gets(r, kind string) string {
	switch kind {
	case "Num0":
		return "mov64 " + r + ", 0\n"
	case "Num":
		return "mov64 " + r + ", 5\n"
	case "Ctx":
		return "mov64 " + r + ", r6\n"
	case "Pkt":
		return "mov64 " + r + ", r8\n"
	case "Frame":
		return "mov64 " + r + ", r10\n"
	case "Ref":
		return "map " + r + ", 1\n"
	case "Cell":
		return "mov64 " + r + ", r7\n"
	}
	return ""
}

var kindNames = []string{"None", "Num0", "Num", "Ctx", "Pkt", "Frame", "Ref", "Cell"}

// row: what the last line does, behind ahead and the other ones, to the register 3, or its trap.
type row struct {
	text string
	trap api.Errno
	r3   api.Value
}

// do: all lines but the last one are done; then this one traps, and nothing has changed, or it is done, and at the place at, steps one more, nothing else has changed but what changed tells.
func do(t *testing.T, k int, text string, trap api.Errno, packet []byte, w vm.World, changed func(last int, s *shot)) {
	t.Helper()
	img := image(t, ahead+text+"mov64 r0, 1\nexit\n")
	last := len(img.Code) - 3
	l := tables(t, img.Maps)
	m, e := vm.New(img, l, packet, w)
	if e != 0 {
		t.Fatalf("row %d: %d", k, e)
	}
	for m.At() < last && m.Step() {
	}
	if over, trap := m.Trap(); over || m.At() != last {
		t.Fatalf("row %d: %q: it is over at %d with %d", k, text, m.At(), trap)
	}
	want, were := shotOf(m), copies(l)
	want.trap, want.over = trap, trap != 0
	if trap == 0 {
		want.steps++
		changed(last, &want)
	} else {
		for _, x := range were {
			x.Sweep()
		}
	}
	if !m.Step() {
		t.Fatalf("row %d: no step", k)
	}
	got := shotOf(m)
	if got.trap != trap || got.regs != want.regs || got.at != want.at {
		t.Errorf("row %d: %q: %d at %d with %v, not %d at %d with %v", k, text, got.trap, got.at, got.regs, trap, want.at, want.regs)
	} else if got != want || !sameTables(l, were) {
		t.Errorf("row %d: %q: something else has changed", k, text)
	}
}

func doAll(t *testing.T, l []row, packet []byte, w vm.World) {
	t.Helper()
	for k, x := range l {
		do(t, k, x.text, x.trap, packet, w, func(last int, s *shot) {
			s.at = last + 1
			s.regs[3] = x.r3
		})
	}
}

func TestP8_2_Alu(t *testing.T) {
	doAll(t, []row{
		{"mov64 r3, -1\n", 0, n(1<<64 - 1)},
		{"mov32 r3, -1\n", 0, n(1<<32 - 1)},
		{"mov64 r3, 5\nadd64 r3, -6\n", 0, n(1<<64 - 1)},
		{"mov64 r3, 5\nadd32 r3, -6\n", 0, n(1<<32 - 1)},
		{"mov64 r3, 5\nsub64 r3, 3\n", 0, n(2)},
		{"mov64 r3, 5\nmov64 r4, 3\nsub64 r3, r4\n", 0, n(2)},
		{"mov64 r3, 5\nmov64 r4, 3\nsub32 r4, r3\nmov64 r3, r4\n", 0, n(1<<32 - 2)},
		{"mov64 r3, -1\nmov32 r3, r3\n", 0, n(1<<32 - 1)},
		{"mov64 r3, 7\ndiv64 r3, 0\n", 0, n(0)},
		{"const r3, 4294967303\nmod32 r3, 0\n", 0, n(7)},
		{"mov64 r3, 1\nneg64 r3\n", 0, n(1<<64 - 1)},
		{"mov64 r3, 1\nneg32 r3\n", 0, n(1<<32 - 1)},
		{"const r3, 9223372036854775808\narsh64 r3, 63\n", 0, n(1<<64 - 1)},
		{"mov64 r3, 1\nlsh32 r3, 33\n", 0, n(2)},
		{"mov64 r3, 6\nmov64 r4, 10\nxor64 r3, r4\n", 0, n(12)},
		{"mov64 r3, 6\nmov64 r4, 10\nor64 r3, r4\n", 0, n(14)},
		{"mov64 r3, 6\nand64 r3, 10\n", 0, n(2)},
		{"mov64 r3, 6\nmul64 r3, r3\n", 0, n(36)},
		{"mov64 r3, 6\nrsh64 r3, 1\n", 0, n(3)},
		// nothing there
		{"add64 r3, 1\n", trapEmpty, n(0)},
		{"add32 r3, 1\n", trapEmpty, n(0)},
		{"neg64 r3\n", trapEmpty, n(0)},
		{"mov64 r3, r4\n", trapEmpty, n(0)},
		{"mov32 r3, r4\n", trapEmpty, n(0)},
		{"mov64 r3, r3\n", trapEmpty, n(0)},
		{"mov64 r3, 1\nadd64 r3, r4\n", trapEmpty, n(0)},
		{"add64 r3, r4\n", trapEmpty, n(0)},
		{"mov64 r4, 1\nadd64 r3, r4\n", trapEmpty, n(0)},
		{"add64 r3, r8\n", trapEmpty, n(0)},
		{"mov64 r3, r8\nxor64 r3, r4\n", trapEmpty, n(0)},
		// a wide Mov moves anything, on whatever was there
		{"mov64 r3, r6\n", 0, ctxAt(0)},
		{"mov64 r3, r8\n", 0, pktAt(0)},
		{"mov64 r3, r10\n", 0, frameAt(512)},
		{"mov64 r3, r7\n", 0, cellAt(1, 1, 0)},
		{"map r4, 2\nmov64 r3, r4\n", 0, refTo(2)},
		{"mov64 r3, r6\nmov64 r3, 1\n", 0, n(1)},
		{"mov64 r3, r6\nmov32 r3, -1\n", 0, n(1<<32 - 1)},
		{"mov64 r3, r6\nmov64 r4, 9\nmov64 r3, r4\n", 0, n(9)},
		{"mov64 r3, r7\nmov32 r3, r6\n", trapKind, n(0)},
		{"mov32 r3, r8\n", trapKind, n(0)},
		{"mov32 r3, r10\n", trapKind, n(0)},
		{"mov32 r3, r7\n", trapKind, n(0)},
		{"map r4, 0\nmov32 r3, r4\n", trapKind, n(0)},
	}, nil, vm.World{})
}

func TestP8_2_AluOfAddresses(t *testing.T) {
	doAll(t, []row{
		{"mov64 r3, r10\nadd64 r3, -8\n", 0, frameAt(504)},
		{"mov64 r3, r10\nsub64 r3, 8\n", 0, frameAt(504)},
		{"mov64 r3, r10\nsub64 r3, -8\n", 0, frameAt(520)},
		{"mov64 r3, r8\nadd64 r3, 14\n", 0, pktAt(14)},
		{"mov64 r3, r8\nsub64 r3, 14\n", 0, pktAt(-14)},
		{"mov64 r3, r7\nadd64 r3, 1\n", 0, cellAt(1, 1, 1)},
		{"mov64 r3, r7\nadd64 r3, 1\nmov64 r4, 3\nsub64 r3, r4\n", 0, cellAt(1, 1, -2)},
		{"mov64 r3, 4\nadd64 r3, r8\n", 0, pktAt(4)},
		{"mov64 r3, -4\nadd64 r3, r10\n", 0, frameAt(508)},
		{"mov64 r3, 1\nadd64 r7, 5\nadd64 r3, r7\n", 0, cellAt(1, 1, 6)},
		{"mov64 r3, r8\nadd64 r3, 0\n", 0, pktAt(0)},
		// so far, and no farther
		{"mov64 r3, r8\nadd64 r3, 1048576\n", 0, pktAt(farthest)},
		{"mov64 r3, r8\nadd64 r3, -1048576\n", 0, pktAt(-farthest)},
		{"mov64 r3, r8\nadd64 r3, 1048577\n", trapWild, n(0)},
		{"mov64 r3, r8\nadd64 r3, -1048577\n", trapWild, n(0)},
		{"mov64 r3, r8\nsub64 r3, 1048576\n", 0, pktAt(-farthest)},
		{"mov64 r3, r8\nsub64 r3, -1048576\n", 0, pktAt(farthest)},
		{"mov64 r3, r8\nsub64 r3, 1048577\n", trapWild, n(0)},
		{"mov64 r3, r8\nsub64 r3, -1048577\n", trapWild, n(0)},
		{"mov64 r3, r10\nadd64 r3, 1048064\n", 0, frameAt(farthest)},
		{"mov64 r3, r10\nadd64 r3, 1048065\n", trapWild, n(0)},
		{"mov64 r3, r10\nadd64 r3, 1048576\n", trapWild, n(0)},
		{"mov64 r3, r10\nsub64 r3, 1048576\n", 0, frameAt(512 - farthest)},
		{"mov64 r3, r10\nadd64 r3, -1048576\nsub64 r3, 512\n", 0, frameAt(-farthest)},
		{"mov64 r3, r10\nadd64 r3, -1048576\nsub64 r3, 513\n", trapWild, n(0)},
		{"mov64 r3, r8\nadd64 r3, -1048576\nadd64 r3, 1048576\n", 0, pktAt(0)},
		{"mov64 r3, r8\nadd64 r3, -1048576\nadd64 r3, 1048577\n", trapWild, n(0)}, // the number itself is too far
		{"mov64 r3, r8\nadd64 r3, 1048576\nsub64 r3, 1048577\n", trapWild, n(0)},
		{"mov64 r3, r8\nadd64 r3, 1048576\nsub64 r3, 1048576\n", 0, pktAt(0)},
		{"mov64 r3, r7\nadd64 r3, 1048577\n", trapWild, n(0)},
		{"mov64 r3, 1048576\nadd64 r3, r7\n", 0, cellAt(1, 1, farthest)},
		{"mov64 r3, 1048577\nadd64 r3, r7\n", trapWild, n(0)},
		{"mov64 r3, -1048577\nadd64 r3, r7\n", trapWild, n(0)},
		{"mov64 r3, 1048065\nadd64 r3, r10\n", trapWild, n(0)},
		{"mov64 r3, r8\nconst r4, 9223372036854775808\nsub64 r3, r4\n", trapWild, n(0)},
		{"mov64 r3, r8\nconst r4, 9223372036854775808\nadd64 r3, r4\n", trapWild, n(0)},
		{"mov64 r3, r8\nsub64 r3, 1\nconst r4, 9223372036854775807\nsub64 r3, r4\n", trapWild, n(0)},
		{"mov64 r3, r8\nconst r4, 4294967296\nadd64 r3, r4\n", trapWild, n(0)},
		{"mov64 r3, r8\nconst r4, 4294967295\nadd64 r3, r4\n", trapWild, n(0)},
		{"mov64 r3, r8\nconst r4, 18446744073709551615\nadd64 r3, r4\n", 0, pktAt(-1)},
		{"mov64 r3, r8\nconst r4, 18446744073709551615\nsub64 r3, r4\n", 0, pktAt(1)},
		// what no address is for
		{"mov64 r3, r8\nadd32 r3, 1\n", trapKind, n(0)},
		{"mov64 r3, r8\nsub32 r3, 0\n", trapKind, n(0)},
		{"mov64 r3, 1\nadd32 r3, r8\n", trapKind, n(0)},
		{"mov64 r3, 1\nsub64 r3, r8\n", trapKind, n(0)},
		{"mov64 r3, r8\nsub64 r3, r8\n", trapKind, n(0)},
		{"mov64 r3, r8\nadd64 r3, r3\n", trapKind, n(0)},
		{"mov64 r3, r10\nsub64 r3, r10\n", trapKind, n(0)},
		{"mov64 r3, r6\nadd64 r3, 1\n", trapKind, n(0)},
		{"mov64 r3, r6\nadd64 r3, 0\n", trapKind, n(0)},
		{"mov64 r3, r6\nsub64 r3, 0\n", trapKind, n(0)},
		{"mov64 r3, 0\nadd64 r3, r6\n", trapKind, n(0)},
		{"map r3, 1\nadd64 r3, 1\n", trapKind, n(0)},
		{"map r3, 1\nsub64 r3, 0\n", trapKind, n(0)},
		{"mov64 r3, 1\nmap r4, 1\nadd64 r3, r4\n", trapKind, n(0)},
		{"mov64 r3, r8\nand64 r3, -8\n", trapKind, n(0)},
		{"mov64 r3, r7\nneg64 r3\n", trapKind, n(0)},
		{"mov64 r3, r8\nmul64 r3, 1\n", trapKind, n(0)},
		{"mov64 r3, r8\nor64 r3, 0\n", trapKind, n(0)},
		{"mov64 r3, 5\nxor64 r3, r8\n", trapKind, n(0)},
		{"mov64 r3, r6\nadd64 r3, 1048577\n", trapKind, n(0)}, // not TrapWild
		{"mov64 r3, r8\nmul64 r3, 1048577\n", trapKind, n(0)},
	}, nil, vm.World{})
}

func TestP8_2_SwapConstRef(t *testing.T) {
	doAll(t, []row{
		{"mov64 r3, 4660\nswap16 r3\n", 0, n(13330)},
		{"mov64 r3, 1\nswap32 r3\n", 0, n(16777216)},
		{"mov64 r3, 1\nswap64 r3\n", 0, n(1 << 56)},
		{"mov64 r3, 65536\nswap16 r3\n", 0, n(0)},
		{"mov64 r3, -2\nswap32 r3\n", 0, n(0xfeffffff)},
		{"swap16 r3\n", trapEmpty, n(0)},
		{"swap64 r3\n", trapEmpty, n(0)},
		{"mov64 r3, r10\nswap64 r3\n", trapKind, n(0)},
		{"mov64 r3, r7\nswap16 r3\n", trapKind, n(0)},
		{"map r3, 0\nswap32 r3\n", trapKind, n(0)},
	}, nil, vm.World{})
	for text, want := range map[string]api.Value{
		"const r3, 0\n": n(0), "const r3, 1\n": n(1), "const r3, 4294967295\n": n(1<<32 - 1), "const r3, 4294967296\n": n(1 << 32), "const r3, 18446744073709551615\n": n(1<<64 - 1),
		"const r3, 18446744069414584320\n": n(0xffffffff00000000), "const r3, 9223372036854775808\n": n(1 << 63), "const r3, 2147483648\n": n(1 << 31), "const r3, 6442450943\n": n(0x17fffffff),
		"map r3, 0\n": refTo(0), "map r3, 1\n": refTo(1), "map r3, 2\n": refTo(2), "map r3, 3\n": refTo(3),
		"mov64 r3, r10\nconst r3, 9\n": n(9), "mov64 r3, 5\nmap r3, 2\n": refTo(2),
	} {
		m, _ := ended(t, text+"mov64 r0, 1\nexit\n", nil, vm.World{})
		if _, trap := m.Trap(); trap != 0 || m.Reg(3) != want {
			t.Errorf("%q: %d, %v", text, trap, m.Reg(3))
		}
	}
}

func TestP8_2_Load(t *testing.T) {
	packet := []byte{1, 2, 3, 4, 5, 6, 7, 8, 255, 254}
	doAll(t, []row{
		// what the program is handed
		{"load32 r3, r6+0\n", 0, n(10)},
		{"load32 r3, r6+4\n", 0, n(1<<32 - 2)},
		{"load64 r3, r6+8\n", 0, pktAt(0)},
		{"load64 r3, r6+0\n", trapBound, n(0)},
		{"load16 r3, r6+0\n", trapBound, n(0)},
		{"load8 r3, r6+0\n", trapBound, n(0)},
		{"load8 r3, r6+3\n", trapBound, n(0)},
		{"load32 r3, r6+1\n", trapBound, n(0)},
		{"load32 r3, r6+2\n", trapBound, n(0)},
		{"load64 r3, r6+4\n", trapBound, n(0)},
		{"load16 r3, r6+4\n", trapBound, n(0)},
		{"load32 r3, r6+8\n", trapBound, n(0)},
		{"load32 r3, r6+12\n", trapBound, n(0)},
		{"load8 r3, r6+8\n", trapBound, n(0)},
		{"load64 r3, r6+16\n", trapBound, n(0)},
		{"load32 r3, r6-4\n", trapBound, n(0)},
		{"load64 r3, r6-8\n", trapBound, n(0)},
		{"load64 r3, r6+9\n", trapBound, n(0)},
		// the packet
		{"load8 r3, r8+0\n", 0, n(1)},
		{"load8 r3, r8+9\n", 0, n(254)},
		{"load8 r3, r8+10\n", trapBound, n(0)},
		{"load8 r3, r8-1\n", trapBound, n(0)},
		{"load16 r3, r8+7\n", 0, n(0xff08)},
		{"load16 r3, r8+9\n", trapBound, n(0)},
		{"load32 r3, r8+1\n", 0, n(0x05040302)},
		{"load32 r3, r8+6\n", 0, n(0xfeff0807)},
		{"load32 r3, r8+7\n", trapBound, n(0)},
		{"load64 r3, r8+2\n", 0, n(0xfeff080706050403)},
		{"load64 r3, r8+3\n", trapBound, n(0)},
		{"load8 r3, r8+32767\n", trapBound, n(0)},
		{"load8 r3, r8-32768\n", trapBound, n(0)},
		{"mov64 r4, r8\nadd64 r4, 5\nload8 r3, r4-2\n", 0, n(4)},
		{"mov64 r4, r8\nadd64 r4, -5\nload8 r3, r4+6\n", 0, n(2)},
		{"mov64 r4, r8\nadd64 r4, -5\nload8 r3, r4+4\n", trapBound, n(0)},
		{"mov64 r4, r8\nadd64 r4, 1048576\nload8 r3, r4+0\n", trapBound, n(0)},
		// the stack
		{"put64 r10-16, -2\nload64 r3, r10-16\n", 0, n(1<<64 - 2)},
		{"put64 r10-16, -2\nload16 r3, r10-12\n", 0, n(65535)},
		{"put32 r10-16, 66051\nload8 r3, r10-15\n", 0, n(2)},
		{"put32 r10-16, 66051\nload8 r3, r10-12\n", trapEmpty, n(0)},
		{"load64 r3, r10-16\n", trapEmpty, n(0)},
		{"load8 r3, r10+0\n", trapBound, n(0)},
		{"load8 r3, r10-1\n", 0, n(7)},
		{"load8 r3, r10-513\n", trapBound, n(0)},
		{"load8 r3, r10-512\n", trapEmpty, n(0)},
		{"load16 r3, r10-3\n", trapAlign, n(0)},
		{"load64 r3, r10-4\n", trapBound, n(0)},
		{"load64 r3, r10-12\n", trapAlign, n(0)},
		{"load32 r3, r10-6\n", trapAlign, n(0)},
		{"store64 r10-16, r8\nload64 r3, r10-16\n", 0, pktAt(0)},
		{"store64 r10-16, r7\nload64 r3, r10-16\n", 0, cellAt(1, 1, 0)},
		{"store64 r10-16, r6\nload64 r3, r10-16\n", 0, ctxAt(0)},
		{"store64 r10-16, r6\nload32 r3, r10-16\n", trapKind, n(0)},
		{"store64 r10-16, r6\nload8 r3, r10-9\n", trapKind, n(0)},
		{"store64 r10-16, r6\nload16 r3, r10-13\n", trapAlign, n(0)},
		{"mov64 r4, r10\nadd64 r4, -100\nput8 r10-99, 9\nload8 r3, r4+1\n", 0, n(9)},
		{"mov64 r4, r10\nadd64 r4, -1000\nput8 r10-512, 9\nload8 r3, r4+488\n", 0, n(9)},
		// a map's cell
		{"load8 r3, r7+0\n", 0, n(2)},
		{"load8 r3, r7+1\n", 0, n(3)},
		{"load16 r3, r7+0\n", 0, n(770)},
		{"load16 r3, r7+1\n", trapBound, n(0)},
		{"load8 r3, r7+2\n", trapBound, n(0)},
		{"load8 r3, r7-1\n", trapBound, n(0)},
		{"load32 r3, r7+0\n", trapBound, n(0)},
		{"mov64 r4, r7\nadd64 r4, 7\nload8 r3, r4-6\n", 0, n(3)},
		// what is no address
		{"load8 r3, r4+0\n", trapEmpty, n(0)},
		{"load64 r3, r4+8\n", trapEmpty, n(0)},
		{"mov64 r4, 0\nload8 r3, r4+0\n", trapKind, n(0)},
		{"mov64 r4, 512\nload8 r3, r4-1\n", trapKind, n(0)},
		{"map r4, 1\nload8 r3, r4+0\n", trapKind, n(0)},
		{"map r4, 1\nload16 r3, r4+100\n", trapKind, n(0)},
		// Src may be Dst
		{"mov64 r3, r8\nload8 r3, r3+1\n", 0, n(2)},
		{"mov64 r3, r6\nload64 r3, r3+8\n", 0, pktAt(0)},
		{"mov64 r3, r8\nload8 r3, r3+10\n", trapBound, n(0)},
	}, packet, vm.World{Port: 1<<32 - 2})
}

func TestP8_2_LengthAndPort(t *testing.T) {
	for _, size := range []int{0, 1, 255, 256, 65535} {
		for _, port := range []uint32{0, 1, 65536, 1<<32 - 1} {
			x, _ := exec(t, "load32 r0, r1+0\nload32 r2, r1+4\nlsh64 r2, 16\nor64 r0, r2\nexit\n", make([]byte, size), vm.World{Port: port}, 5)
			if x.Trap != 0 || x.Verdict != uint64(port)<<16+uint64(size) {
				t.Error(size, port, x.Trap, x.Verdict)
			}
		}
	}
}

func TestP8_2_Jump(t *testing.T) {
	for k, x := range []struct {
		text string // the last line jumps over one, or not
		trap api.Errno
		is   bool
	}{
		{"mov64 r3, 5\njeq64 r3, 5, +1\n", 0, true},
		{"mov64 r3, 5\njeq64 r3, 4, +1\n", 0, false},
		{"mov64 r3, 5\njne64 r3, 5, +1\n", 0, false},
		{"mov64 r3, 5\njne64 r3, 0, +1\n", 0, true},
		{"mov64 r3, 0\njeq64 r3, 0, +1\n", 0, true},
		{"mov64 r3, 0\njne64 r3, 0, +1\n", 0, false},
		{"mov64 r3, -1\njgt64 r3, 1, +1\n", 0, true},
		{"mov64 r3, -1\njsgt64 r3, 1, +1\n", 0, false},
		{"mov64 r3, -1\njslt64 r3, 1, +1\n", 0, true},
		{"mov64 r3, -1\njeq64 r3, -1, +1\n", 0, true},
		{"mov32 r3, -1\njeq64 r3, -1, +1\n", 0, false},
		{"mov32 r3, -1\njeq32 r3, -1, +1\n", 0, true},
		{"mov64 r3, 4\nmov64 r4, 5\njlt64 r3, r4, +1\n", 0, true},
		{"mov64 r3, 4\nmov64 r4, 5\njlt64 r4, r3, +1\n", 0, false},
		{"mov64 r3, 4\nmov64 r4, 5\njgt64 r4, r3, +1\n", 0, true},
		{"mov64 r3, 4\njge64 r3, r3, +1\n", 0, true},
		{"mov64 r3, 6\njset64 r3, 9, +1\n", 0, false},
		{"mov64 r3, 6\njset64 r3, 2, +1\n", 0, true},
		{"const r3, 4294967296\njset32 r3, -1, +1\n", 0, false},
		{"const r3, 4294967296\njeq32 r3, 0, +1\n", 0, true},
		// nothing there
		{"jeq64 r3, 0, +1\n", trapEmpty, false},
		{"jne32 r3, 0, +1\n", trapEmpty, false},
		{"mov64 r3, 1\njeq64 r3, r4, +1\n", trapEmpty, false},
		{"mov64 r4, 1\njeq64 r3, r4, +1\n", trapEmpty, false},
		{"jeq64 r3, r4, +1\n", trapEmpty, false},
		{"mov64 r3, r8\njgt64 r3, r4, +1\n", trapEmpty, false},
		{"jeq64 r3, r8, +1\n", trapEmpty, false},
		// an address is not 0
		{"mov64 r3, r6\njeq64 r3, 0, +1\n", 0, false},
		{"mov64 r3, r6\njne64 r3, 0, +1\n", 0, true},
		{"mov64 r3, r8\njeq64 r3, 0, +1\n", 0, false},
		{"mov64 r3, r8\njne64 r3, 0, +1\n", 0, true},
		{"mov64 r3, r10\njeq64 r3, 0, +1\n", 0, false},
		{"mov64 r3, r10\njne64 r3, 0, +1\n", 0, true},
		{"map r3, 0\njeq64 r3, 0, +1\n", 0, false},
		{"map r3, 0\njne64 r3, 0, +1\n", 0, true},
		{"mov64 r3, r7\njeq64 r3, 0, +1\n", 0, false},
		{"mov64 r3, r7\njne64 r3, 0, +1\n", 0, true},
		{"jeq64 r10, 0, +1\n", 0, false},
		{"jne64 r10, 0, +1\n", 0, true},
		{"mov64 r3, r8\njeq64 r3, 1, +1\n", trapKind, false},
		{"mov64 r3, r8\njne64 r3, -1, +1\n", trapKind, false},
		{"mov64 r3, r8\njeq32 r3, 0, +1\n", trapKind, false},
		{"mov64 r3, r8\njne32 r3, 0, +1\n", trapKind, false},
		{"mov64 r3, r8\njgt64 r3, 0, +1\n", trapKind, false},
		{"mov64 r3, r8\njset64 r3, 0, +1\n", trapKind, false},
		{"mov64 r3, r8\njsgt64 r3, 0, +1\n", trapKind, false},
		{"mov64 r3, r8\njle64 r3, 0, +1\n", trapKind, false},
		{"mov64 r3, r8\nmov64 r4, 0\njeq64 r3, r4, +1\n", trapKind, false},
		{"mov64 r3, r8\nmov64 r4, 0\njne64 r3, r4, +1\n", trapKind, false},
		{"mov64 r3, 0\njeq64 r3, r8, +1\n", trapKind, false},
		{"mov64 r3, 0\njne64 r3, r8, +1\n", trapKind, false},
		{"mov64 r3, r8\njeq64 r3, r8, +1\n", trapKind, false},
		{"mov64 r3, r8\njne64 r3, r3, +1\n", trapKind, false},
		{"map r3, 0\nmov64 r4, 5\njlt64 r4, r3, +1\n", trapKind, false},
	} {
		do(t, k, x.text, x.trap, nil, vm.World{}, func(last int, s *shot) {
			s.at = last + 1
			if x.is {
				s.at++
			}
		})
	}
}

// Jumps go as far as an Off tells, both ways, whether they hold or not.
func TestP8_2_Targets(t *testing.T) {
	long := ""
	for range 200 {
		long += "mov64 r9, 1\n"
	}
	for k, x := range []struct {
		text  string
		want  uint64
		steps int
	}{
		{"goto +0\nmov64 r0, 1\nexit\n", 1, 3},
		{"mov64 r0, 1\ngoto +200\n" + long + "exit\n", 1, 3},
		{"mov64 r0, 1\njne64 r0, 0, +200\n" + long + "exit\n", 1, 3},
		{"mov64 r0, 1\njeq64 r0, 0, +200\n" + long + "exit\n", 1, 203},
		{"goto +201\n" + long + "exit\nmov64 r0, 1\ngoto -203\n", 1, 204},
		{"mov64 r0, 8\nadd64 r0, -1\njsgt64 r0, 0, -2\nexit\n", 0, 18},
		{"goto +2\nconst r0, 6\nexit\n", 0, 0},
		{"mov64 r0, 1\nconst r2, 1\njeq64 r0, r2, +0\nexit\n", 1, 4},
	} {
		end, _ := exec(t, x.text, nil, vm.World{}, 1000)
		if x.steps == 0 {
			if end.Trap != trapEmpty || end.At != 3 {
				t.Errorf("row %d: %+v", k, end)
			}
			continue
		}
		if end.Trap != 0 || end.Verdict != x.want || end.Steps != x.steps {
			t.Errorf("row %d: %+v", k, end)
		}
	}
}

func TestP8_2_Exit(t *testing.T) {
	for _, kind := range kindNames {
		text := "mov64 r6, r1\nload64 r8, r6+8\nmap r2, 0\nput32 r10-4, 0\n"
		want := api.Errno(trapKind)
		switch kind {
		case "None":
			text = ""
			want = trapEmpty
		case "Num0", "Num":
			text += gets("r0", kind)
			want = 0
		case "Cell":
			text = "put32 r10-4, 0\nmov64 r2, r10\nadd64 r2, -4\nmap r1, 0\ncall 1\n"
		default:
			text += gets("r0", kind)
		}
		last := len(code(t, text))
		x, _ := exec(t, text+"exit\n", nil, vm.World{}, 100)
		if x.Trap != want || x.At != last {
			t.Errorf("%s: %+v", kind, x)
		}
		if want == 0 && x.Verdict != map[string]uint64{"Num0": 0, "Num": 5}[kind] || want != 0 && x.Verdict != 0 {
			t.Errorf("%s: verdict %d", kind, x.Verdict)
		}
	}
	x, _ := exec(t, "mov64 r0, -3\nexit\n", nil, vm.World{}, 100)
	if x.Verdict != 1<<64-3 {
		t.Error(x)
	}
}
