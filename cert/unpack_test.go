package cert_test

import (
	"bytes"
	"fmt"
	"math/rand"
	"slices"
	"testing"

	"stockade/api"
	"stockade/cert"
	"stockade/flow"
	"stockade/state"
)

// reads: that Unpack tells these points.
func reads(t *testing.T, name string, b []byte, want ...flow.Out) {
	t.Helper()
	if l, e := cert.Unpack(b); e != 0 || !slices.Equal(l, want) {
		t.Errorf("%s: %d points, %d; not %d", name, len(l), e, len(want))
	}
}

// unread: that Unpack refuses the bytes.
func unread(t *testing.T, name string, b []byte, want api.Errno) {
	t.Helper()
	if l, e := cert.Unpack(b); e != want || len(l) > 0 {
		t.Errorf("%s: %d points, %d; not %d", name, len(l), e, want)
	}
}

func TestP15_5_Examples(t *testing.T) {
	unread(t, "a point that is not there", []byte{1, 0, 0, 0}, errShort)
	reads(t, "no points", []byte{0, 0, 0, 0})
	reads(t, "the zero state at 0", append([]byte{1}, make([]byte, 146)...), flow.Out{})
	for n := range 4 {
		unread(t, fmt.Sprint(n, " bytes"), make([]byte, n), errShort)
	}
	unread(t, "nil", nil, errShort)
	for n := 5; n < 300; n++ {
		unread(t, fmt.Sprint(n, " bytes"), make([]byte, n), errForm)
	}
}

// How many points there are, the lowest byte first: too many as soon as that is read.
func TestP15_5_Counts(t *testing.T) {
	for _, n := range []uint32{1025, 1026, 2047, 2048, 65535, 65536, 65537, 1 << 16, 1 << 24, 1<<24 + 1, 1 << 31, 1<<31 - 1, 1<<32 - 1} {
		head := []byte{byte(n), byte(n >> 8), byte(n >> 16), byte(n >> 24)}
		unread(t, fmt.Sprint(n), head, errForm)
		unread(t, fmt.Sprint(n, " and more"), append(head, make([]byte, 143*1100)...), errForm)
		for k := range 4 {
			unread(t, fmt.Sprint(n, " cut"), head[:k], errShort)
		}
	}
	for _, n := range []int{1, 2, 255, 256, 1023, 1024} {
		b := append([]byte{byte(n), byte(n >> 8), 0, 0}, make([]byte, 143*n)...)
		reads(t, fmt.Sprint(n), b, make([]flow.Out, n)...)
		unread(t, fmt.Sprint(n, " cut"), b[:len(b)-1], errShort)
		unread(t, fmt.Sprint(n, " and a byte"), append(b, 0), errForm)
		unread(t, fmt.Sprint(n, " alone"), b[:4], errShort)
	}
}

// A place and how long the packet is, two bytes each: the place is asked as soon as it is read.
func TestP15_5_Heads(t *testing.T) {
	for _, at := range []int{0, 1, 255, 256, 510, 511, 512, 513, 767, 768, 1024, 32768, 65535} {
		for _, n := range []int{0, 1, 255, 256, 0x1234, 32768, 65535} {
			b := append([]byte{1, 0, 0, 0, byte(at), byte(at >> 8), byte(n), byte(n >> 8)}, make([]byte, 139)...)
			unread(t, fmt.Sprint(at, " cut"), b[:5], errShort)
			if at > 511 {
				unread(t, fmt.Sprint(at, n), b, errForm)
				unread(t, fmt.Sprint(at, " alone"), b[:6], errForm)
				continue
			}
			reads(t, fmt.Sprint(at, n), b, out(at, api.State{Packet: n}))
			for k := 6; k < 9; k++ {
				unread(t, fmt.Sprint(at, n, " cut"), b[:k], errShort)
			}
		}
	}
}

// Knowledge of each kind, in each register and each slot; cut wherever it may be.
func TestP15_5_Forms(t *testing.T) {
	for r, text := range regForms() {
		if text == "" {
			continue
		}
		for k := range 11 {
			b := form(t, "01000000"+pointForm(k, -1, text))
			reads(t, fmt.Sprint(r, " in r", k), b, out(0, with(api.State{}, map[int]api.Reg{k: r})))
			for n := range b {
				unread(t, fmt.Sprint(r, " in r", k, ", cut"), b[:n], errShort)
			}
		}
		for k := range 64 {
			x, text := laid(r), text
			if r.Kind == none {
				x, text = have(170), "00 aa"
			}
			b := form(t, "01000000"+pointForm(-1, k, text))
			reads(t, fmt.Sprint(r, " in the slot ", k), b, out(0, withSlots(api.State{}, map[int]api.Slot{k: x})))
			unread(t, fmt.Sprint(r, " in the slot ", k, ", and a byte"), append(b, 0), errForm)
		}
	}
	for bits := range 256 {
		reads(t, fmt.Sprint("Have ", bits), form(t, "01000000"+pointForm(-1, 5, fmt.Sprintf("00%02x", bits))), out(0, withSlots(api.State{}, map[int]api.Slot{5: have(byte(bits))})))
	}
}

// ahead: a beginning of a form, with so many registers or slots to come yet.
func ahead(regs, slots int) []byte {
	return append([]byte{2, 0, 0, 0}, make([]byte, 4+11-regs+2*(64-slots))...)
}

// spots: where a register's knowledge may come.
func spots() map[string][]byte {
	l := map[string][]byte{}
	for k := range 11 {
		l[fmt.Sprint("r", k)] = ahead(11-k, 64)
	}
	for k := range 64 {
		l[fmt.Sprint("slot ", k)] = ahead(0, 64-k)
	}
	l["r0 of the second point"] = append(ahead(0, 0), 0, 0, 0, 0)
	l["the last slot of the second point"] = append(ahead(0, 0), ahead(0, 1)[4:]...)
	return l
}

// A Kind above 7 and a Len above 1 are told as soon as they are read.
func TestP15_5_KindsAndLens(t *testing.T) {
	for name, head := range spots() {
		for kind := range 256 {
			b := append(bytes.Clone(head), byte(kind))
			want := api.Errno(errShort)
			if kind > 7 {
				want = errForm
			}
			if name == "the last slot of the second point" && kind == ctx {
				continue // that is all
			}
			unread(t, fmt.Sprint(name, ", Kind ", kind), b, want)
		}
		for n := range 256 {
			b := append(bytes.Clone(head), num, byte(n))
			want := api.Errno(errShort)
			if n > 1 {
				want = errForm
			}
			unread(t, fmt.Sprint(name, ", Len ", n), b, want)
			unread(t, fmt.Sprint(name, ", Len ", n, " cut"), b[:len(b)-1], errShort)
		}
	}
}

// Knowledge that may not be is told behind its bytes, not ahead of their end.
func TestP15_5_MayNot(t *testing.T) {
	for name, head := range spots() {
		for _, r := range badRegs() {
			b := toldReg(bytes.Clone(head), r)
			unread(t, fmt.Sprint(name, r), b, errForm)
			unread(t, fmt.Sprint(name, r, " and more"), append(bytes.Clone(b), 8, 8, 8), errForm)
			for n := len(head); n < len(b); n++ {
				unread(t, fmt.Sprint(name, r, " cut"), b[:n], errShort)
			}
		}
	}
}

// What comes first from the left is told.
func TestP15_5_First(t *testing.T) {
	bad := []byte{num, 0, 1, 0, 0, 0, 0, 0, 0, 0, 1} // a Num with V 1 and M 1
	whole := append(bytes.Clone(bad), make([]byte, 7+16)...)
	for name, head := range spots() {
		unread(t, name+": short ahead of what may not be", append(bytes.Clone(head), bad...), errShort)
		unread(t, name+": what may not be ahead of short", append(bytes.Clone(head), whole...), errForm)
	}
	unread(t, "a place, and it ends", []byte{1, 0, 0, 0, 0, 2}, errForm)
	unread(t, "many, and it ends", []byte{1, 4, 0, 0}, errForm)
	unread(t, "the second point's place", append(ahead(0, 0), 0, 2), errForm)
	unread(t, "the second point is short", append(ahead(0, 0), 0), errShort)
	unread(t, "bytes are left behind no points", []byte{0, 0, 0, 0, 9}, errForm)
}

// damaged: bytes with something changed.
func damaged(chance *rand.Rand, b []byte) []byte {
	b = bytes.Clone(b)
	if len(b) == 0 {
		return b
	}
	switch k := chance.Intn(len(b)); chance.Intn(7) {
	case 0:
		return b[:k]
	case 1:
		return append(b, byte(chance.Intn(3)))
	case 2:
		b[k] ^= 1 << chance.Intn(8)
	case 3:
		b[k] = pick[byte](chance, 0, 1, 2, 7, 8, 255, byte(chance.Intn(256)))
	case 4:
		return slices.Insert(b, k, byte(chance.Intn(9)))
	case 5:
		return slices.Delete(b, k, k+1)
	default:
		k := chance.Intn(min(40, len(b)))
		b[k] = byte(chance.Intn(9))
	}
	return b
}

// goodPoints: as many as are wanted, with states that may be, at places that may be.
func goodPoints(chance *rand.Rand, n int) []flow.Out {
	var l []flow.Out
	for range n {
		l = append(l, out(pick(chance, 0, 255, 256, 511, chance.Intn(512)), anyState(chance)))
	}
	return l
}

func TestP15_5_ByTheChapter(t *testing.T) {
	chance := rand.New(rand.NewSource(1550))
	count := map[api.Errno]int{}
	for range 3000 {
		l := goodPoints(chance, chance.Intn(5))
		b := toldForm(l)
		if chance.Intn(8) == 0 {
			b = toldForm(anyPoints(chance, chance.Intn(5), 1+chance.Intn(600)))
		}
		for range 4 {
			want, e := toldUnpack(b)
			if l, f := cert.Unpack(b); e != f || !slices.Equal(l, want) {
				t.Fatalf("%x: %d points, %d; not %d, %d", b, len(l), f, len(want), e)
			}
			count[e]++
			b = damaged(chance, b)
		}
	}
	if count[0] < 1000 || count[errShort] < 1000 || count[errForm] < 1000 {
		t.Error(count)
	}
}

// What is handed in is not changed, nor the room behind its end; what is written into an answer shows nowhere.
func TestP15_5_NewMemory(t *testing.T) {
	_, a, b := seven(t)
	form := toldForm([]flow.Out{a, b})
	room := append(bytes.Clone(form), 1, 2, 3)
	was := bytes.Clone(room)
	l, e := cert.Unpack(room[:len(form)])
	want := slices.Clone(l)
	clear(l[:cap(l)])
	again, f := cert.Unpack(room[:len(form)])
	if e != 0 || f != 0 || !slices.Equal(again, want) || !slices.Equal(want, []flow.Out{a, b}) || !bytes.Equal(room, was) {
		t.Error(e, f)
	}
	again[0].S = state.Begin()
	clear(room)
	if !slices.Equal(again[1:], want[1:]) {
		t.Error("shared")
	}
}
