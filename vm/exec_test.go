package vm_test

import (
	"bytes"
	"math/rand"
	"strings"
	"testing"

	"stockade/api"
	"stockade/vm"
)

func TestP8_4_Rows(t *testing.T) {
	loop := "mov64 r0, 7\nadd64 r0, 1\ngoto -2\n"
	for k, x := range []struct {
		text string
		fuel int
		want vm.End
	}{
		{"mov64 r0, 7\nexit\n", 1 << 20, vm.End{At: 1, Verdict: 7, Steps: 2}},
		{"mov64 r0, 7\nexit\n", 2, vm.End{At: 1, Verdict: 7, Steps: 2}},
		{"mov64 r0, 7\nexit\n", 1, vm.End{Trap: trapFuel, At: 1, Steps: 1}},
		{"mov64 r0, 7\nexit\n", 0, vm.End{Trap: trapFuel}},
		{"mov64 r0, -1\nexit\n", 9, vm.End{At: 1, Verdict: 1<<64 - 1, Steps: 2}},
		{"mov64 r0, 0\nexit\n", 9, vm.End{At: 1, Steps: 2}},
		// a trap is told ahead of the want of fuel alone where there is some for it
		{"exit\n", 0, vm.End{Trap: trapFuel}},
		{"exit\n", 1, vm.End{Trap: trapEmpty}},
		{"mov64 r0, 7\nmov64 r2, r3\nexit\n", 1, vm.End{Trap: trapFuel, At: 1, Steps: 1}},
		{"mov64 r0, 7\nmov64 r2, r3\nexit\n", 2, vm.End{Trap: trapEmpty, At: 1, Steps: 1}},
		{"mov64 r0, 7\nmov64 r2, r3\nexit\n", 1000, vm.End{Trap: trapEmpty, At: 1, Steps: 1}},
		{"mov64 r0, 7\nload8 r0, r1+1\nexit\n", 1000, vm.End{Trap: trapBound, At: 1, Steps: 1}},
		{"mov64 r0, 7\nput8 r1+1, 1\nexit\n", 1000, vm.End{Trap: trapWrite, At: 1, Steps: 1}},
		{"mov64 r0, 7\nput16 r10-3, 1\nexit\n", 1000, vm.End{Trap: trapAlign, At: 1, Steps: 1}},
		{"mov64 r0, 7\nadd64 r1, 1\nexit\n", 1000, vm.End{Trap: trapKind, At: 1, Steps: 1}},
		{"load64 r2, r1+8\nadd64 r2, 1048577\nexit\n", 1000, vm.End{Trap: trapWild, At: 1, Steps: 1}},
		{"mov64 r0, r10\nexit\n", 1000, vm.End{Trap: trapKind, At: 1, Steps: 1}},
		// what comes next when the fuel is gone
		{"const r0, 1\nmap r2, 1\nexit\n", 1, vm.End{Trap: trapFuel, At: 2, Steps: 1}},
		{"const r0, 1\nmap r2, 1\nexit\n", 2, vm.End{Trap: trapFuel, At: 4, Steps: 2}},
		{"const r0, 1\nmap r2, 1\nexit\n", 3, vm.End{At: 4, Verdict: 1, Steps: 3}},
		{"goto -1\n", 5, vm.End{Trap: trapFuel, At: 0, Steps: 5}},
		{"goto -1\n", 1 << 20, vm.End{Trap: trapFuel, At: 0, Steps: 1 << 20}},
		{loop, 0, vm.End{Trap: trapFuel, At: 0}},
		{loop, 1, vm.End{Trap: trapFuel, At: 1, Steps: 1}},
		{loop, 2, vm.End{Trap: trapFuel, At: 2, Steps: 2}},
		{loop, 3, vm.End{Trap: trapFuel, At: 1, Steps: 3}},
		{loop, 1000, vm.End{Trap: trapFuel, At: 2, Steps: 1000}},
		{"mov64 r0, 7\njeq64 r0, 7, +1\nexit\ngoto -2\n", 2, vm.End{Trap: trapFuel, At: 3, Steps: 2}},
		{"mov64 r0, 7\njeq64 r0, 7, +1\nexit\ngoto -2\n", 4, vm.End{At: 2, Verdict: 7, Steps: 4}},
		{"mov64 r0, 7\njeq64 r0, 7, +1\nexit\ngoto -2\n", 3, vm.End{Trap: trapFuel, At: 2, Steps: 3}},
	} {
		for _, packet := range []string{"", "0123456789"} {
			x.want.Packet = []byte(packet)
			if got, _ := exec(t, x.text, []byte(packet), vm.World{}, x.fuel); !sameEnd(got, x.want) {
				t.Errorf("row %d: %q with %d: %+v, not %+v", k, x.text, x.fuel, got, x.want)
			}
		}
	}
}

// A program as long as may be, done whole, with just as much fuel.
func TestP8_4_Long(t *testing.T) {
	text := strings.Repeat("add64 r0, 1\n", 510)
	text = "mov64 r0, 0\n" + text + "exit\n"
	for fuel := 508; fuel < 516; fuel++ {
		want := vm.End{Trap: trapFuel, At: fuel, Steps: fuel}
		if fuel >= 512 {
			want = vm.End{At: 511, Verdict: 510, Steps: 512}
		}
		if got, _ := exec(t, text, nil, vm.World{}, fuel); !sameEnd(got, want) {
			t.Errorf("%d: %+v", fuel, got)
		}
	}
}

// The packet as the run left it, whether it trapped or not, or wanted fuel; in new memory.
func TestP8_4_ThePacketThen(t *testing.T) {
	for _, x := range []struct {
		last string
		fuel int
		trap api.Errno
	}{{"mov64 r0, 1\nexit\n", 100, 0}, {"mov64 r0, 1\nload8 r0, r6+4\nexit\n", 100, trapBound}, {"goto -1\n", 100, trapFuel}, {"mov64 r0, 1\nexit\n", 3, trapFuel}} {
		packet := append(make([]byte, 0, 9), "abcd"...)
		end, _ := exec(t, "load64 r6, r1+8\nput16 r6+1, 31097\nput8 r6+3, 122\n"+x.last, packet, vm.World{}, x.fuel)
		if end.Trap != x.trap || string(end.Packet) != "ayyz" || end.Verdict != 0 && x.trap != 0 {
			t.Errorf("%q: %+v", x.last, end)
		}
		for k := range end.Packet[:cap(end.Packet)] {
			end.Packet[:cap(end.Packet)][k] = 1
		}
		if !bytes.Equal(packet[:9], []byte("abcd\x00\x00\x00\x00\x00")) {
			t.Errorf("%q: %v", x.last, packet[:9])
		}
	}
}

// With TrapFuel, too, the tables are swept; and no fuel at all sweeps them.
func TestP8_4_Swept(t *testing.T) {
	for _, x := range []struct {
		text string
		fuel int
		trap api.Errno
	}{{"mov64 r0, 1\nexit\n", 2, 0}, {"mov64 r0, 1\nexit\n", 1, trapFuel}, {"mov64 r0, 1\nexit\n", 0, trapFuel}, {"exit\n", 5, trapEmpty}, {"goto -1\n", 1000, trapFuel}} {
		img := image(t, x.text)
		l := tables(t, img.Maps)
		for _, at := range []int{1, 2, 3} {
			m := l[at].Map()
			l[at].Update(make([]byte, m.Key), make([]byte, m.Value))
			l[at].Delete(make([]byte, m.Key))
		}
		end, e := vm.Exec(img, l, nil, vm.World{}, x.fuel)
		if e != 0 || end.Trap != x.trap {
			t.Fatal(end, e)
		}
		for _, at := range []int{1, 2, 3} {
			if _, e := l[at].Load(1, 0, 1); e != errNone {
				t.Errorf("%q with %d: the cell of map %d: %d", x.text, x.fuel, at, e)
			}
		}
	}
}

func TestP8_4_ByTheChapter(t *testing.T) {
	chance := rand.New(rand.NewSource(84))
	traps := map[api.Errno]int{}
	for range 700 {
		l, packet, w := filled(t, chance), anyPacket(chance), anyWorld(chance)
		img := grown(chance, l, packet, w)
		for _, fuel := range []int{1000, chance.Intn(60)} {
			mine, told := copies(l), copies(l)
			got, e := vm.Exec(img, mine, packet, w, fuel)
			if want := toldExec(toldNew(img, told, packet, w), fuel); e != 0 || !sameEnd(got, want) {
				t.Fatalf("%+v with %d: %d, %+v, not %+v", img, fuel, e, got, want)
			}
			if !sameTables(mine, told) {
				t.Fatalf("%+v with %d: other tables", img, fuel)
			}
			traps[got.Trap]++
		}
	}
	if min(traps[0], traps[trapEmpty], traps[trapKind], traps[trapFuel]) < 10 {
		t.Error(traps)
	}
}

func TestExamples(t *testing.T) {
	for k, x := range []struct {
		text, packet string
		want         vm.End
	}{
		{"mov64 r0, 7\nexit\n", "", vm.End{At: 1, Verdict: 7, Steps: 2}},
		{"exit\n", "", vm.End{Trap: trapEmpty}},
		{"load64 r6, r1+8\nload8 r0, r6+2\nexit\n", "\x05\x06\x07", vm.End{At: 2, Verdict: 7, Steps: 3}},
		{"load64 r6, r1+8\nload8 r0, r6+3\nexit\n", "\x05\x06\x07", vm.End{Trap: trapBound, At: 1, Steps: 1}},
		{"mov64 r0, r1\nexit\n", "", vm.End{Trap: trapKind, At: 1, Steps: 1}},
	} {
		x.want.Packet = []byte(x.packet)
		if got, _ := exec(t, x.text, []byte(x.packet), vm.World{}, 100); !sameEnd(got, x.want) {
			t.Errorf("row %d: %+v", k, got)
		}
	}
	m, _ := ended(t, "store64 r10-8, r1\nload64 r2, r10-8\nmov64 r0, 1\nexit\n", nil, vm.World{})
	if m.Reg(2) != ctxAt(0) {
		t.Error(m.Reg(2))
	}
	for key, want := range map[string]api.Value{"0": cellAt(0, 1, 0), "1": cellAt(0, 2, 0), "2": n(0)} {
		m, _ := begin(t, "put32 r10-4, "+key+"\nmov64 r2, r10\nadd64 r2, -4\nmap r1, 0\ncall 1\nload64 r6, r0+0\nexit\n", nil, vm.World{})
		for range 5 {
			m.Step()
		}
		if m.Reg(0) != want {
			t.Error(key, m.Reg(0))
		}
		m.Step()
		if _, trap := m.Trap(); want.Kind == cell && (trap != 0 || m.Reg(6) != n(0)) || want.Kind == num && trap != trapKind {
			t.Error(key, trap, m.Reg(6))
		}
	}
}
