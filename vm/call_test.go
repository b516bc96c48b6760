package vm_test

import (
	"testing"

	"stockade/api"
	"stockade/maps"
	"stockade/vm"
)

// A call's answer, and what is left in the other registers.
func TestP8_2_CallLeaves(t *testing.T) {
	for _, helper := range []string{"1", "2", "3", "5", "7"} {
		text := "put32 r10-4, 0\nput64 r10-16, 7\nmov64 r6, 1\nmov64 r7, r1\nmov64 r8, r10\nmap r9, 3\nmov64 r2, r10\nadd64 r2, -4\nmov64 r3, r10\nadd64 r3, -16\nmov64 r4, 4\nmov64 r5, r1\nmap r1, 0\n"
		m, _ := begin(t, text+"call "+helper+"\nexit\n", []byte{1}, vm.World{Times: []uint64{9}, Chances: []uint32{9}})
		last := len(code(t, text))
		for m.At() < last {
			m.Step()
		}
		want := shotOf(m)
		want.at++
		want.steps++
		want.regs[0] = map[string]api.Value{"1": cellAt(0, 1, 0), "2": n(0), "3": n(1<<64 - 1), "5": n(9), "7": n(9)}[helper]
		for r := 1; r <= 5; r++ {
			want.regs[r] = api.Value{}
		}
		m.Step()
		if got := shotOf(m); got != want {
			t.Errorf("call %s: %v at %d", helper, got.regs, got.at)
		}
	}
}

// The world's answers, in their order; 0 when there is no more. A helper that asks the world needs nothing.
func TestP8_2_TimeAndChance(t *testing.T) {
	for k, x := range []struct {
		calls   string
		times   []uint64
		chances []uint32
		want    []uint64
	}{
		{"55", []uint64{5, 6, 7}, nil, []uint64{5, 6}},
		{"5555", []uint64{1 << 63, 1<<64 - 1}, nil, []uint64{1 << 63, 1<<64 - 1, 0, 0}},
		{"777", nil, []uint32{1<<32 - 1, 1 << 31}, []uint64{1<<32 - 1, 1 << 31, 0}},
		{"57577", []uint64{1, 2}, []uint32{3, 4}, []uint64{1, 3, 2, 4, 0}},
		{"5", nil, []uint32{3}, []uint64{0}},
		{"7", []uint64{3}, nil, []uint64{0}},
		{"75", []uint64{8}, []uint32{9}, []uint64{9, 8}},
	} {
		text := ""
		for _, c := range x.calls {
			text += "call " + string(c) + "\n"
		}
		m, _ := begin(t, text+"exit\n", nil, vm.World{Times: x.times, Chances: x.chances})
		for call, want := range x.want {
			if !m.Step() || m.Reg(0) != n(want) {
				t.Errorf("row %d: call %d: %v, not %d", k, call, m.Reg(0), want)
			}
		}
	}
}

// What a helper on maps is handed: the first trap that is named.
func TestP8_2_CallTraps(t *testing.T) {
	key := "mov64 r2, r10\nadd64 r2, -1\n"   // 7
	value := "mov64 r3, r10\nadd64 r3, -4\n" // 2 and 3
	var l []row
	add := func(trap api.Errno, text string, helpers ...string) {
		for _, h := range helpers {
			l = append(l, row{text: text + "call " + h + "\n", trap: trap})
		}
	}
	all := []string{"1", "2", "3"}
	add(trapEmpty, "", all...)
	add(trapEmpty, key+value, all...)
	for _, r1 := range []string{"mov64 r1, 0\n", "mov64 r1, r6\n", "mov64 r1, r7\n", "mov64 r1, r8\n", "mov64 r1, r10\n"} {
		add(trapKind, r1, all...)
		add(trapKind, r1+key+value, all...)
	}
	add(trapEmpty, "map r1, 1\n", all...)
	add(trapEmpty, "map r1, 1\n"+value, all...)
	for _, r2 := range []string{"mov64 r2, 511\n", "mov64 r2, r6\n", "mov64 r2, r7\n", "mov64 r2, r8\n", "map r2, 1\n"} {
		add(trapKind, "map r1, 1\n"+r2, all...)
		add(trapKind, "map r1, 1\n"+value+r2, all...)
	}
	at := func(r, off string) string { return "mov64 " + r + ", r10\nadd64 " + r + ", " + off + "\n" }
	// the key's bytes, one by one: map 1 has one, map 2 two, map 0 four, map 3 sixteen
	for _, off := range []string{"0", "1", "-513", "1048064", "-1048576"} {
		add(trapBound, "map r1, 1\n"+at("r2", off)+value, all...)
	}
	add(trapBound, "put64 r10-8, 0\nmap r1, 2\n"+at("r2", "-1")+value, all...)
	add(trapBound, "put64 r10-8, 0\nmap r1, 0\n"+at("r2", "-3")+value, all...)
	add(trapBound, "put64 r10-8, 0\nput64 r10-16, 0\nmap r1, 3\n"+at("r2", "-15")+value, all...)
	add(trapBound, "put64 r10-512, 0\nmap r1, 2\n"+at("r2", "-513")+value, all...)
	add(trapEmpty, "map r1, 1\n"+at("r2", "-2")+value, all...)
	add(trapEmpty, "put8 r10-32, 1\nmap r1, 2\n"+at("r2", "-32")+value, all...)
	add(trapEmpty, "put8 r10-31, 1\nmap r1, 2\n"+at("r2", "-32")+value, all...)
	add(trapEmpty, "put8 r10-1, 1\nmap r1, 0\n"+at("r2", "-2")+value, all...) // nothing there goes ahead of the end
	add(trapKind, "store64 r10-16, r6\nmap r1, 1\n"+at("r2", "-16")+value, all...)
	add(trapKind, "store64 r10-16, r6\nmap r1, 1\n"+at("r2", "-9")+value, all...)
	add(trapKind, "store64 r10-16, r6\nput8 r10-17, 1\nmap r1, 2\n"+at("r2", "-17")+value, all...)
	add(trapEmpty, "store64 r10-16, r6\nmap r1, 2\n"+at("r2", "-17")+value, all...)
	add(trapKind, "store64 r10-8, r6\nmap r1, 2\n"+at("r2", "-1")+value, all...)
	// an update's value, behind all that
	good := "map r1, 1\n" + key
	add(trapEmpty, good, "2")
	for _, r3 := range []string{"mov64 r3, 508\n", "mov64 r3, r6\n", "mov64 r3, r7\n", "mov64 r3, r8\n", "map r3, 1\n"} {
		add(trapKind, good+r3, "2")
		add(trapEmpty, "map r1, 1\n"+r3, "2")
		add(trapBound, "map r1, 1\n"+at("r2", "0")+r3, "2")
	}
	add(trapBound, good+at("r3", "-1"), "2")
	add(trapBound, good+at("r3", "0"), "2")
	add(trapBound, good+at("r3", "-1048576"), "2")
	add(trapEmpty, good+at("r3", "-5"), "2")
	add(trapEmpty, good+at("r3", "-3"), "2")
	add(trapKind, "store64 r10-16, r6\n"+good+at("r3", "-16"), "2")
	add(trapKind, "store64 r10-16, r6\nput8 r10-17, 1\n"+good+at("r3", "-17"), "2")
	doAll(t, l, []byte{1, 2, 3}, vm.World{})
}

// Lookup, update and delete do what the table's calls do, and answer by their errors.
func TestP8_2_Helpers(t *testing.T) {
	for k, x := range []struct {
		text    string
		want    api.Value
		entries string // of the map 1, which has the entries a=12, b=34
	}{
		{"put8 r10-1, 97\ncall 1\n", cellAt(1, 1, 0), "a12b34"},
		{"put8 r10-1, 98\ncall 1\n", cellAt(1, 2, 0), "a12b34"},
		{"put8 r10-1, 99\ncall 1\n", n(0), "a12b34"},
		{"put8 r10-1, 97\nput16 r10-4, 30841\ncall 2\n", n(0), "ayxb34"},
		{"put8 r10-1, 99\nput16 r10-4, 30841\ncall 2\n", n(1<<64 - errFull), "a12b34"},
		{"put8 r10-1, 97\ncall 3\n", n(0), "b34"},
		{"put8 r10-1, 99\ncall 3\n", n(1<<64 - errNone), "a12b34"},
	} {
		before := "mov64 r2, r10\nadd64 r2, -1\nmov64 r3, r10\nadd64 r3, -4\nmap r1, 1\n"
		m, l := begin(t, before+x.text+"mov64 r9, 1\nexit\n", nil, vm.World{})
		l[1].Update([]byte("a"), []byte("12"))
		l[1].Update([]byte("b"), []byte("34"))
		others := copies([]*maps.Table{l[0], l[2], l[3]})
		for m.Reg(9) != n(1) && m.Step() {
		}
		if _, trap := m.Trap(); trap != 0 || m.Reg(0) != x.want {
			t.Errorf("row %d: %q: %d, %v", k, x.text, trap, m.Reg(0))
		}
		all := ""
		for _, y := range l[1].Entries() {
			all += string(y.Key) + string(y.Value)
		}
		if all != x.entries || !sameTables(others, []*maps.Table{l[0], l[2], l[3]}) {
			t.Errorf("row %d: %q: %q", k, x.text, all)
		}
	}
}

// An array takes no key that it has not, and deletes none.
func TestP8_2_HelpersOfAnArray(t *testing.T) {
	for k, x := range []struct {
		text string
		want api.Value
	}{
		{"put32 r10-4, 0\ncall 1\nload64 r0, r0+0\n", n(0)},
		{"put32 r10-4, 0\ncall 1\n", cellAt(0, 1, 0)},
		{"put32 r10-4, 1\ncall 1\n", cellAt(0, 2, 0)},
		{"put32 r10-4, 2\ncall 1\n", n(0)},
		{"put32 r10-4, 16777216\ncall 1\n", n(0)},
		{"put32 r10-4, 1\ncall 2\n", n(0)},
		{"put32 r10-4, 2\ncall 2\n", n(1<<64 - errNone)},
		{"put32 r10-4, 1\ncall 3\n", n(1<<64 - errArg)},
		{"put32 r10-4, 2\ncall 3\n", n(1<<64 - errArg)},
	} {
		m, _ := ended(t, "put64 r10-16, 5\nmov64 r2, r10\nadd64 r2, -4\nmov64 r3, r10\nadd64 r3, -16\nmap r1, 0\n"+x.text+"mov64 r8, r0\nmov64 r0, 1\nexit\n", nil, vm.World{})
		if _, trap := m.Trap(); trap != 0 || m.Reg(8) != x.want {
			t.Errorf("row %d: %q: %d, %v", k, x.text, trap, m.Reg(8))
		}
	}
}

// A key and a value are those bytes, in their order, over the slots' ends too.
func TestP8_2_KeysAndValues(t *testing.T) {
	text := "mov64 r6, 64\nmov64 r7, r10\nadd64 r7, -1\nstore8 r7+0, r6\nadd64 r6, -1\nadd64 r7, -1\njne64 r6, 0, -4\n" + // the bytes 1 to 64, up to the end
		"mov64 r2, r10\nadd64 r2, -21\nmov64 r3, r10\nadd64 r3, -64\nmap r1, 3\ncall 2\njne64 r0, 0, +12\n" +
		"mov64 r2, r10\nadd64 r2, -21\nmap r1, 3\ncall 1\njeq64 r0, 0, +6\nload8 r8, r0+0\nlsh64 r8, 8\nload8 r9, r0+63\nor64 r8, r9\nmov64 r0, r8\nexit\nmov64 r0, 1\nexit\n"
	end, l := exec(t, text, nil, vm.World{}, 1000)
	if end.Trap != 0 || end.Verdict != 1<<8+64 {
		t.Fatalf("%+v", end)
	}
	x := l[3].Entries()
	if len(x) != 1 || len(x[0].Key) != 16 || len(x[0].Value) != 64 {
		t.Fatal(x)
	}
	for k, b := range x[0].Key {
		if int(b) != 44+k {
			t.Error(x[0].Key)
		}
	}
	for k, b := range x[0].Value {
		if int(b) != 1+k {
			t.Error(x[0].Value)
		}
	}
}

// A lookup, as much as an update, is a use: what was used longest ago goes first.
func TestP8_2_LookupIsAUse(t *testing.T) {
	text := "put16 r10-2, 24929\nmov64 r2, r10\nadd64 r2, -2\nmap r1, 2\ncall 1\nmov64 r0, 1\nexit\n"
	img := image(t, text)
	l := tables(t, img.Maps)
	for _, key := range []string{"aa", "bb"} {
		l[2].Update([]byte(key), make([]byte, 16))
	}
	if end, e := vm.Exec(img, l, nil, vm.World{}, 100); e != 0 || end.Trap != 0 {
		t.Fatal(end, e)
	}
	l[2].Update([]byte("cc"), make([]byte, 16))
	if x := l[2].Entries(); len(x) != 2 || string(x[0].Key) != "aa" || string(x[1].Key) != "cc" {
		t.Error(x)
	}
}

// All tables are swept when the run is over, by an Exit or a trap, and not ahead of that; what came last into a cell is told till then.
func TestP8_2_Swept(t *testing.T) {
	for _, end := range []string{"mov64 r0, 1\nexit\n", "exit\n", "mov64 r0, r1\nexit\n", "load8 r0, r6+9\nexit\n"} {
		text := "mov64 r6, r1\nput8 r10-1, 97\nmov64 r2, r10\nadd64 r2, -1\nmap r1, 1\ncall 1\nmov64 r7, r0\nmov64 r2, r10\nadd64 r2, -1\nmap r1, 1\ncall 3\nput8 r7+0, 5\nload8 r8, r7+0\nload8 r9, r7+1\n"
		if end == "exit\n" {
			text += "mov64 r0, r10\n" // no number
		}
		m, l := begin(t, text+end, nil, vm.World{})
		l[1].Update([]byte("a"), []byte("12"))
		l[2].Update([]byte("aa"), []byte("0123456789abcdef"))
		l[2].Delete([]byte("aa")) // of a map that the run does not ask, too
		for {
			_, e := l[1].Load(1, 0, 1)
			_, f := l[2].Load(1, 0, 1)
			over, _ := m.Trap()
			if over && (e != errNone || f != errNone) || !over && (e != 0 || f != 0) {
				t.Errorf("%q at %d: %v, %d, %d", end, m.At(), over, e, f)
			}
			if over {
				break
			}
			m.Step()
		}
		if m.Reg(8) != n(5) || m.Reg(9) != n('2') {
			t.Error(m.Reg(8), m.Reg(9))
		}
	}
}

// A step of a run that is over sweeps nothing, and does nothing else.
func TestP8_2_OverIsOver(t *testing.T) {
	for _, text := range []string{"mov64 r0, 1\nexit\n", "exit\n", "mov64 r0, 1\nload8 r0, r0+0\nexit\n"} {
		m, l := ended(t, text, []byte{1}, vm.World{})
		want := shotOf(m)
		l[1].Update([]byte("a"), []byte("12"))
		l[1].Delete([]byte("a"))
		for range 3 {
			if m.Step() {
				t.Errorf("%q: a step", text)
			}
		}
		if _, e := l[1].Load(1, 0, 1); e != 0 || shotOf(m) != want {
			t.Errorf("%q: %d", text, e)
		}
	}
}
