package cert_test

import (
	"bytes"
	"encoding/hex"
	"fmt"
	"math/rand"
	"slices"
	"strings"
	"testing"

	"stockade/api"
	"stockade/cert"
	"stockade/flow"
	"stockade/state"
)

// Forms of some knowledge, byte by byte.
const (
	zero8  = " 0000000000000000"
	ones8  = " ffffffffffffffff"
	seven8 = " 0700000000000000"
	far8   = " 0000100000000000"
)

// form: the bytes that stand in a text.
func form(t *testing.T, text string) []byte {
	t.Helper()
	b, e := hex.DecodeString(strings.ReplaceAll(text, " ", ""))
	if e != nil {
		t.Fatal(e)
	}
	return b
}

// regForms: knowledge, and its form.
func regForms() map[api.Reg]string {
	return map[api.Reg]string{
		{}: "00", {Kind: ctx}: "02",
		just(7): "01 00" + seven8 + zero8 + seven8 + seven8, anything(): "01 00" + zero8 + ones8 + zero8 + ones8,
		lenOf(both(0, 65535, 60, 65535)):          "01 01" + zero8 + " ffff000000000000 3c00000000000000 ffff000000000000",
		numOf(both(1<<56, 6, 1<<56+1, 1<<56+5)):   "01 00 0000000000000001 0600000000000000 0100000000000001 0500000000000001",
		numOf(both(0, 0x0807060504030201, 9, 10)): "", // may not be: see TestP15_4_Forms
		reg(pkt, 0, -1, 2):                        "03" + ones8 + " 0200000000000000", reg(pkt, 0, -far, far): "03 0000f0ffffffffff" + far8,
		reg(frame, 0, 512, 512): "04 0002000000000000 0002000000000000", reg(frame, 0, -2, 7): "04 feffffffffffffff" + seven8,
		reg(ref, 3, 0, 0): "05 0300000000000000", reg(ref, 0, 0, 0): "05" + zero8, reg(ref, 1<<63-1, 0, 0): "05 ffffffffffffff7f",
		reg(cell, 2, -far, far): "06 0200000000000000 0000f0ffffffffff" + far8, reg(cell, 0x0102030405, 0, 7): "06 0504030201000000" + zero8 + seven8,
		reg(maybeCell, 1, 0, 0): "07 0100000000000000",
	}
}

// pointForm: the form of a point at 0 of which just one register or slot is told.
func pointForm(reg, slot int, text string) string {
	b := "0000 0000 "
	for k := range 11 {
		if k == reg {
			b += text
			continue
		}
		b += "00"
	}
	for k := range 64 {
		if k == slot {
			b += text
			continue
		}
		b += "0000"
	}
	return b
}

// packs: that Pack tells these bytes.
func packs(t *testing.T, name string, l []flow.Out, want []byte) {
	t.Helper()
	if b, e := cert.Pack(l); e != 0 || !bytes.Equal(b, want) {
		t.Errorf("%s: %x, %d; not %x", name, b, e, want)
	}
}

// unpacked: that Pack refuses a list.
func unpacked(t *testing.T, name string, l []flow.Out, want api.Errno) {
	t.Helper()
	if b, e := cert.Pack(l); e != want || len(b) > 0 {
		t.Errorf("%s: %d bytes, %d; not %d", name, len(b), e, want)
	}
}

func TestP15_4_Examples(t *testing.T) {
	packs(t, "no points", nil, []byte{0, 0, 0, 0})
	packs(t, "no points, not nil", []flow.Out{}, []byte{0, 0, 0, 0})
	packs(t, "the zero state at 0", []flow.Out{{}}, append([]byte{1}, make([]byte, 146)...))
	_, a, b := seven(t)
	begin := "00 02 00000000000000 00 04 0002000000000000 0002000000000000" + strings.Repeat("0000", 64)
	want := "02000000 0000 0000" + begin + "0100 0000 01 00" + seven8 + zero8 + seven8 + seven8 + begin[2:]
	packs(t, "seven", []flow.Out{a, b}, form(t, want))
}

func TestP15_4_Forms(t *testing.T) {
	for r, text := range regForms() {
		if text == "" {
			unpacked(t, "may not be", []flow.Out{out(0, with(api.State{}, map[int]api.Reg{0: r}))}, errArg)
			continue
		}
		for k := range 11 {
			packs(t, fmt.Sprint(r, " in r", k), []flow.Out{out(0, with(api.State{}, map[int]api.Reg{k: r}))}, form(t, "01000000"+pointForm(k, -1, text)))
		}
		for k := range 64 {
			x, text := laid(r), text
			if r.Kind == none {
				x, text = have(170), "00 aa"
			}
			packs(t, fmt.Sprint(r, " in the slot ", k), []flow.Out{out(0, withSlots(api.State{}, map[int]api.Slot{k: x}))}, form(t, "01000000"+pointForm(-1, k, text)))
		}
	}
	for bits := range 256 {
		packs(t, fmt.Sprint("Have ", bits), []flow.Out{out(0, withSlots(api.State{}, map[int]api.Slot{5: have(byte(bits))}))}, form(t, "01000000"+pointForm(-1, 5, fmt.Sprintf("00%02x", bits))))
	}
}

// A place from 0 to 511, how long the packet is from 0 to 65535; how many points there are.
func TestP15_4_Heads(t *testing.T) {
	rest := make([]byte, 139)
	for _, at := range []int{0, 1, 255, 256, 257, 510, 511} {
		for _, n := range []int{0, 1, 255, 256, 0x1234, 65534, 65535} {
			packs(t, fmt.Sprint(at, n), []flow.Out{out(at, api.State{Packet: n})}, append([]byte{1, 0, 0, 0, byte(at), byte(at >> 8), byte(n), byte(n >> 8)}, rest...))
		}
	}
	for _, n := range []int{2, 255, 256, 257, most - 1, most} {
		want := append([]byte{byte(n), byte(n >> 8), 0, 0}, make([]byte, 143*n)...)
		packs(t, fmt.Sprint(n, " points"), make([]flow.Out, n), want)
	}
}

func TestP15_4_Refused(t *testing.T) {
	_, a, b := seven(t)
	for _, at := range []int{-1 << 63, -65536, -512, -1, 512, 513, 65535, 65536, 1 << 32, 1<<63 - 1} {
		unpacked(t, fmt.Sprint("at ", at), []flow.Out{out(at, state.Begin())}, errArg)
		unpacked(t, fmt.Sprint("behind others at ", at), []flow.Out{a, b, out(at, api.State{})}, errArg)
	}
	for k, s := range spoilt() {
		unpacked(t, fmt.Sprint("may not be ", k), []flow.Out{out(0, s)}, errArg)
		unpacked(t, fmt.Sprint("may not be, ahead of another one ", k), []flow.Out{a, out(511, s), b}, errArg)
	}
	unpacked(t, "too many", make([]flow.Out, most+1), errLong)
	unpacked(t, "too many, and none may be", slices.Repeat([]flow.Out{out(-1, api.State{Packet: -1})}, most+1), errLong)
	unpacked(t, "as many as may be, and one place may not", append(make([]flow.Out, most-1), out(512, api.State{})), errArg)
	unpacked(t, "as many as may be, and one state may not", append([]flow.Out{out(0, api.State{Packet: 65536})}, make([]flow.Out, most-1)...), errArg)
}

func TestP15_4_ByTheChapter(t *testing.T) {
	chance := rand.New(rand.NewSource(1540))
	count := map[api.Errno]int{}
	for range 1500 {
		l := anyPoints(chance, chance.Intn(6), 1+chance.Intn(600))
		if len(l) > 0 && chance.Intn(2) == 0 {
			l[chance.Intn(len(l))] = out(chance.Intn(700)-50, pick(chance, pick(chance, spoilt()...), anyState(chance)))
		}
		want, e := toldPack(l)
		if b, f := cert.Pack(l); e != f || !bytes.Equal(b, want) {
			t.Fatalf("%+v: %x, %d; not %x, %d", l, b, f, want, e)
		}
		count[e]++
	}
	if count[0] < 300 || count[errArg] < 300 {
		t.Error(count)
	}
}

// What is handed in is not changed, nor the room behind its end; what is written into an answer shows nowhere.
func TestP15_4_NewMemory(t *testing.T) {
	_, a, b := seven(t)
	room := []flow.Out{a, b, out(-1, api.State{Packet: -1})}
	was := slices.Clone(room)
	first, e := cert.Pack(room[:2])
	want := bytes.Clone(first)
	clear(first[:cap(first)])
	again, f := cert.Pack(room[:2])
	if e != 0 || f != 0 || !bytes.Equal(again, want) || !slices.Equal(room, was) {
		t.Error(e, f)
	}
}
