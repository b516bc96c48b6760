package vm_test

import (
	"testing"

	"stockade/api"
	"stockade/mem"
	"stockade/vm"
)

// What is stored where it may not be: the first trap that is named.
func TestP8_2_StoreTraps(t *testing.T) {
	var l []row
	add := func(trap api.Errno, texts ...string) {
		for _, text := range texts {
			l = append(l, row{text: text, trap: trap})
		}
	}
	// by Dst
	add(trapEmpty, "put8 r3+0, 1\n", "store8 r3+0, r4\n", "mov64 r4, 1\nstore8 r3+0, r4\n", "store64 r3+0, r8\n")
	add(trapKind, "mov64 r3, 0\nput8 r3+0, 1\n", "mov64 r3, 0\nstore8 r3+0, r4\n", "mov64 r3, 504\nmov64 r4, 1\nstore64 r3+0, r4\n")
	add(trapKind, "map r3, 1\nput8 r3+0, 1\n", "map r3, 1\nstore8 r3+0, r4\n", "map r3, 1\nstore64 r3+0, r8\n")
	// by Src
	for _, to := range []string{"r6", "r7", "r8", "r10"} {
		add(trapEmpty, "store64 "+to+"-8, r4\n", "store8 "+to+"+0, r9\n", "store64 "+to+"+600, r4\n")
	}
	// a Ctx is not written to
	add(trapWrite, "put32 r6+0, 1\n", "put32 r6+4, 1\n", "put64 r6+8, 1\n", "put8 r6+100, 1\n", "put64 r6-8, 1\n", "mov64 r4, 1\nstore64 r6+8, r4\n", "store64 r6+8, r8\n", "store64 r6+8, r6\n", "store32 r6+0, r7\n")
	// addresses lie on the stack alone
	for _, from := range []string{"r6", "r7", "r8", "r10"} {
		add(trapKind, "store64 r8+0, "+from+"\n", "store64 r7+0, "+from+"\n", "store8 r8+100, "+from+"\n", "store8 r7+100, "+from+"\n", "store8 r8-1, "+from+"\n")
		add(trapKind, "store32 r10-8, "+from+"\n", "store16 r10-8, "+from+"\n", "store8 r10-1, "+from+"\n")
		add(trapBound, "store64 r10+0, "+from+"\n", "store32 r10+0, "+from+"\n", "store64 r10-520, "+from+"\n", "store64 r10-4, "+from+"\n")
		add(trapAlign, "store64 r10-12, "+from+"\n", "store32 r10-6, "+from+"\n", "store16 r10-3, "+from+"\n")
	}
	add(trapKind, "map r4, 1\nstore64 r8+0, r4\n", "map r4, 1\nstore64 r7+0, r4\n", "map r4, 1\nstore16 r10-8, r4\n")
	// what is beyond, what is not at a multiple
	add(trapBound, "put8 r10+0, 1\n", "put8 r10-513, 1\n", "put64 r10-520, 1\n", "put64 r10-516, 1\n", "put64 r10-7, 1\n", "put32 r10-2, 1\n", "put8 r10+32767, 1\n", "put8 r10-32768, 1\n")
	add(trapAlign, "put64 r10-12, 1\n", "put32 r10-6, 1\n", "put16 r10-3, 1\n", "put64 r10-511, 1\n")
	add(trapBound, "put8 r8+10, 1\n", "put8 r8-1, 1\n", "put16 r8+9, 1\n", "put32 r8+7, 1\n", "put64 r8+3, 1\n", "put8 r8+32767, 1\n", "put64 r8-8, 1\n")
	add(trapBound, "put8 r7+2, 1\n", "put16 r7+1, 1\n", "put32 r7+0, 1\n", "put64 r7+0, 1\n", "put8 r7-1, 1\n")
	add(trapBound, "mov64 r3, r8\nadd64 r3, 5\nput8 r3+5, 1\n", "mov64 r3, r8\nsub64 r3, 5\nput8 r3+4, 1\n", "mov64 r3, r8\nadd64 r3, 1048576\nput8 r3-32768, 1\n")
	doAll(t, l, []byte("0123456789"), vm.World{})
}

// To the stack: bytes, an address, one upon the other.
func TestP8_2_StoreToTheStack(t *testing.T) {
	bytesOf := func(have byte, l ...byte) mem.Slot {
		s := mem.Slot{Have: have}
		copy(s.B[:], l)
		return s
	}
	for k, x := range []struct {
		text string
		slot mem.Slot // the bytes 496 to 503
	}{
		{"put64 r10-16, -2\n", bytesOf(255, 254, 255, 255, 255, 255, 255, 255, 255)},
		{"put32 r10-16, -2\n", bytesOf(15, 254, 255, 255, 255)},
		{"put32 r10-12, 16909060\n", bytesOf(240, 0, 0, 0, 0, 4, 3, 2, 1)},
		{"put16 r10-14, 66051\n", bytesOf(12, 0, 0, 3, 2)},
		{"put8 r10-9, 511\n", bytesOf(128, 0, 0, 0, 0, 0, 0, 0, 255)},
		{"const r3, 72623859790382856\nstore64 r10-16, r3\n", bytesOf(255, 8, 7, 6, 5, 4, 3, 2, 1)},
		{"const r3, 72623859790382856\nstore32 r10-16, r3\n", bytesOf(15, 8, 7, 6, 5)},
		{"const r3, 72623859790382856\nstore16 r10-10, r3\n", bytesOf(192, 0, 0, 0, 0, 0, 0, 8, 7)},
		{"const r3, 72623859790382856\nstore8 r10-13, r3\n", bytesOf(8, 0, 0, 0, 8)},
		{"store64 r10-16, r1\n", mem.Slot{Have: 255, V: ctxAt(0)}},
		{"store64 r10-16, r10\n", mem.Slot{Have: 255, V: frameAt(512)}},
		{"map r3, 2\nstore64 r10-16, r3\n", mem.Slot{Have: 255, V: refTo(2)}},
		{"load64 r3, r1+8\nadd64 r3, 9\nstore64 r10-16, r3\n", mem.Slot{Have: 255, V: pktAt(9)}},
		{"store64 r10-16, r1\nput8 r10-15, 1\n", bytesOf(2, 0, 1)},
		{"store64 r10-16, r1\nput64 r10-16, 1\n", bytesOf(255, 1)},
		{"put64 r10-16, -1\nstore64 r10-16, r1\n", mem.Slot{Have: 255, V: ctxAt(0)}},
		{"put64 r10-16, -1\nput16 r10-12, 0\n", bytesOf(255, 255, 255, 255, 255, 0, 0, 255, 255)},
		{"mov64 r3, r10\nadd64 r3, -500\nput8 r3+484, 5\n", bytesOf(1, 5)},
		{"mov64 r3, r10\nadd64 r3, 500\nput8 r3-516, 5\n", bytesOf(1, 5)},
		{"put8 r10-17, 5\nput8 r10-8, 5\n", mem.Slot{}},
	} {
		m, _ := ended(t, x.text+"mov64 r0, 1\nexit\n", nil, vm.World{})
		if _, trap := m.Trap(); trap != 0 || m.Frame()[62] != x.slot {
			t.Errorf("row %d: %q: %d, %+v", k, x.text, trap, m.Frame()[62])
		}
	}
}

func TestP8_2_StoreToThePacket(t *testing.T) {
	for k, x := range []struct{ text, want string }{
		{"put8 r6+0, 120\n", "x123456789"},
		{"put8 r6+9, 376\n", "012345678x"},
		{"put16 r6+3, 31097\n", "012yy56789"},
		{"put32 r6+1, 1684234849\n", "0abcd56789"},
		{"put64 r6+2, -1\n", "01\xff\xff\xff\xff\xff\xff\xff\xff"},
		{"put64 r6+0, -2\n", "\xfe\xff\xff\xff\xff\xff\xff\xff89"},
		{"const r3, 7523094288207667809\nstore64 r6+1, r3\n", "0abcdefgh9"},
		{"const r3, 7523094288207667809\nstore32 r6+6, r3\n", "012345abcd"},
		{"const r3, 7523094288207667809\nstore16 r6+8, r3\n", "01234567ab"},
		{"const r3, 7523094288207667809\nstore8 r6+4, r3\n", "0123a56789"},
		{"add64 r6, 5\nput8 r6-5, 120\n", "x123456789"},
		{"sub64 r6, 5\nput8 r6+14, 120\n", "012345678x"},
		{"put8 r6+0, 120\nput8 r6+1, 121\nput8 r6+0, 122\n", "zy23456789"},
	} {
		packet := []byte("0123456789")
		m, _ := ended(t, "load64 r6, r1+8\n"+x.text+"mov64 r0, 1\nexit\n", packet, vm.World{})
		if _, trap := m.Trap(); trap != 0 || string(m.Packet()) != x.want || string(packet) != "0123456789" {
			t.Errorf("row %d: %q: %d, %q; %q", k, x.text, trap, m.Packet(), packet)
		}
		end, _ := exec(t, "load64 r6, r1+8\n"+x.text+"load8 r0, r6+0\nexit\n", packet, vm.World{}, 100)
		if string(end.Packet) != x.want || string(packet) != "0123456789" {
			t.Errorf("row %d: %q: %+v; %q", k, x.text, end, packet)
		}
	}
}

// What is laid in a cell is in the table, and in a cell whose entry has gone it is nowhere.
func TestP8_2_StoreToACell(t *testing.T) {
	lookup := "mov64 r9, r1\nput16 r10-2, 24929\nmov64 r2, r10\nadd64 r2, -2\nmap r1, 2\ncall 1\n"
	remove := "mov64 r6, r0\nmov64 r2, r10\nadd64 r2, -2\nmap r1, 2\ncall 3\nmov64 r0, r6\n"
	for k, x := range []struct{ text, want string }{
		{"put8 r0+0, 120\n", "x123456789abcdef"},
		{"put8 r0+15, 376\n", "0123456789abcdex"},
		{"put64 r0+8, -1\n", "01234567\xff\xff\xff\xff\xff\xff\xff\xff"},
		{"const r3, 7523094288207667809\nstore64 r0+3, r3\n", "012abcdefghbcdef"},
		{"const r3, 7523094288207667809\nstore32 r0+12, r3\n", "0123456789ababcd"},
		{"add64 r0, 4\nput16 r0-4, 31097\n", "yy23456789abcdef"},
		{remove + "put8 r0+0, 120\nload8 r4, r0+0\njeq64 r4, 120, +1\nload8 r0, r9+0\n", ""},
	} {
		img := image(t, lookup+x.text+"mov64 r0, 1\nexit\n")
		l := tables(t, img.Maps)
		l[2].Update([]byte("bb"), []byte("zzzzzzzzzzzzzzzz"))
		l[2].Update([]byte("aa"), []byte("0123456789abcdef"))
		end, e := vm.Exec(img, l, nil, vm.World{}, 100)
		all := ""
		for _, y := range l[2].Entries() {
			all += string(y.Value)
		}
		if e != 0 || end.Trap != 0 || all != x.want+"zzzzzzzzzzzzzzzz" {
			t.Errorf("row %d: %q: %d, %+v, %q", k, x.text, e, end, all)
		}
	}
}

// A cell may be gone, when another run that ended has swept: that is a trap, and no panic.
func TestP8_2_ACellThatIsGone(t *testing.T) {
	for _, last := range []string{"load8 r0, r0+0\n", "put8 r0+0, 1\n"} {
		m, l := begin(t, "put8 r10-1, 7\nmov64 r2, r10\nadd64 r2, -1\nmap r1, 1\ncall 1\n"+last+"mov64 r0, 1\nexit\n", nil, vm.World{})
		l[1].Update([]byte{7}, []byte{1, 2})
		for range 5 {
			m.Step()
		}
		if m.Reg(0) != cellAt(1, 1, 0) {
			t.Fatal(m.Reg(0))
		}
		l[1].Delete([]byte{7})
		l[1].Sweep()
		is := m.Step()
		if over, trap := m.Trap(); !is || !over || trap == 0 || m.At() != 6 || m.Steps() != 5 || m.Step() {
			t.Errorf("%q: %v, %d, %d", last, over, trap, m.At())
		}
	}
}
