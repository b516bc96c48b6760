package image_test

import (
	"bytes"
	"fmt"
	"math/rand"
	"slices"
	"testing"

	"stockade/api"
	"stockade/image"
)

func TestP16_2_Examples(t *testing.T) {
	decodes(t, "00 00 00", form(t, "00 00 00"), api.Image{})
	for text, want := range map[string]api.Errno{"00 00": errShort, "05": errForm, "00 01 00": errShort, "00 00 00 00": errForm, "": errShort, "00 01 02": errForm} {
		unread(t, text, form(t, text), want)
	}
	unread(t, "nil", nil, errShort)
	decodes(t, "an Exit", form(t, "00 01 00 95 00 00 00 00 00 00 00"), codeAlone(api.Insn{Op: 0x95}))
	decodes(t, "a map", form(t, "01 02 04 08 10 00 00"), mapsAlone(api.Map{Kind: 2, Key: 4, Value: 8, Cap: 16}))
}

// Each field of maps and of places, where it stands; the highest bit is a sign in Off and Imm alone.
func TestP16_2_Fields(t *testing.T) {
	decodes(t, "two maps, three places", form(t, "02 01020304 fffefdfc 0300"+"18 21 ffff 01000080"+"ff 0f 0201 01020304"+"80 f0 0080 feffffff"), api.Image{
		Maps: []api.Map{{Kind: 1, Key: 2, Value: 3, Cap: 4}, {Kind: 255, Key: 254, Value: 253, Cap: 252}},
		Code: []api.Insn{{Op: 0x18, Dst: 1, Src: 2, Off: -1, Imm: -2147483647}, {Op: 255, Dst: 15, Off: 258, Imm: 67305985}, {Op: 128, Src: 15, Off: -32768, Imm: -2}},
	})
	for n := range 256 {
		x := byte(n)
		decodes(t, fmt.Sprint("Kind ", n), []byte{1, x, 0, 0, 0, 0, 0}, mapsAlone(api.Map{Kind: n}))
		decodes(t, fmt.Sprint("Key ", n), []byte{1, 0, x, 0, 0, 0, 0}, mapsAlone(api.Map{Key: n}))
		decodes(t, fmt.Sprint("Value ", n), []byte{1, 0, 0, x, 0, 0, 0}, mapsAlone(api.Map{Value: n}))
		decodes(t, fmt.Sprint("Cap ", n), []byte{1, 0, 0, 0, x, 0, 0}, mapsAlone(api.Map{Cap: n}))
		decodes(t, fmt.Sprint("Op ", n), []byte{0, 1, 0, x, 0, 0, 0, 0, 0, 0, 0}, codeAlone(api.Insn{Op: x}))
		decodes(t, fmt.Sprint("registers ", n), []byte{0, 1, 0, 0, x, 0, 0, 0, 0, 0, 0}, codeAlone(api.Insn{Dst: x & 15, Src: x >> 4}))
		decodes(t, fmt.Sprint("Off ", n), []byte{0, 1, 0, 0, 0, 0, x, 0, 0, 0, 0}, codeAlone(api.Insn{Off: int16(n << 8)}))
		decodes(t, fmt.Sprint("Imm ", n), []byte{0, 1, 0, 0, 0, 0, 0, 0, 0, 0, x}, codeAlone(api.Insn{Imm: int32(n << 24)}))
	}
}

// A number of maps above 4 is seen with the first byte, whatever comes.
func TestP16_2_CountsOfMaps(t *testing.T) {
	for n := range 256 {
		if n > 4 {
			unread(t, fmt.Sprint(n), []byte{byte(n)}, errForm)
			unread(t, fmt.Sprint(n, " maps"), append([]byte{byte(n)}, make([]byte, 4*n+2)...), errForm)
			unread(t, fmt.Sprint(n, " and one place"), append([]byte{byte(n)}, 1, 0), errForm)
			continue
		}
		b := append([]byte{byte(n)}, make([]byte, 4*n+2)...)
		decodes(t, fmt.Sprint(n, " maps"), b, mapsAlone(make([]api.Map, n)...))
		for k := 1; k < len(b); k++ {
			unread(t, fmt.Sprint(n, " maps, cut at ", k), b[:k], errShort)
		}
		unread(t, fmt.Sprint(n, " maps, and a byte"), append(b, 0), errForm)
	}
}

// A number of places above 512 is seen with its second byte, whatever comes; the maps come ahead of it.
func TestP16_2_CountsOfPlaces(t *testing.T) {
	for maps := range 5 {
		head := append([]byte{byte(maps)}, make([]byte, 4*maps)...)
		for _, n := range []int{0, 1, 2, 3, 254, 255, 256, 257, 510, 511, 512, 513, 514, 767, 768, 769, 1024, 4096, 32767, 32768, 65280, 65535} {
			name := fmt.Sprint(maps, " maps, ", n, " places")
			start := both(head, []byte{byte(n), byte(n >> 8)})
			unread(t, name+" cut", start[:len(start)-1], errShort)
			if n > 512 {
				unread(t, name+" alone", start, errForm)
				unread(t, name, both(start, make([]byte, min(8*n, mostData-len(start)))), errForm)
				continue
			}
			b := both(start, make([]byte, 8*n))
			decodes(t, name, b, api.Image{Maps: make([]api.Map, maps), Code: make([]api.Insn, n)})
			unread(t, name+" and a byte", append(b, 0), errForm)
			for k := len(start); k < len(b); k += 1 + k/20 {
				unread(t, fmt.Sprint(name, " cut at ", k), b[:k], errShort)
			}
			if n > 0 {
				unread(t, name+" and a byte too few", b[:len(b)-1], errShort)
			}
		}
	}
}

// The greatest form, cut wherever it may be, and with bytes behind it.
func TestP16_2_Greatest(t *testing.T) {
	b := toldForm(full())
	decodes(t, "whole", b, full())
	for k := range b {
		unread(t, fmt.Sprint("cut at ", k), b[:k], errShort)
	}
	for _, n := range []int{1, 2, 8, 4115, mostData - len(b)} {
		unread(t, fmt.Sprint(n, " bytes behind it"), both(b, make([]byte, n)), errForm)
	}
	unread(t, "one byte too many", both(b, make([]byte, mostData-len(b)+1)), errLong)
}

// More than 65536 bytes are told ahead of whatever else is wrong.
func TestP16_2_Long(t *testing.T) {
	for _, first := range []byte{0, 1, 4, 5, 255} {
		for _, n := range []int{mostData + 1, mostData + 2, 2 * mostData, 1 << 20} {
			b := make([]byte, n)
			b[0] = first
			unread(t, fmt.Sprint(n, " bytes from ", first), b, errLong)
		}
		for _, n := range []int{mostData - 1, mostData} {
			b := make([]byte, n)
			b[0] = first
			unread(t, fmt.Sprint(n, " bytes from ", first), b, errForm)
		}
	}
}

// All beginnings of three bytes, alone and with a place behind them.
func TestP16_2_AllHeads(t *testing.T) {
	for maps := range 8 {
		for lo := range 256 {
			for hi := range 256 {
				for _, b := range [][]byte{{byte(maps), byte(lo), byte(hi)}, {byte(maps), byte(lo), byte(hi), 0x95, 0, 0, 0, 0, 0, 0, 0}} {
					want, e := toldDecode(b)
					if img, f := image.Decode(b); e != f || !alike(img, want) {
						t.Fatalf("%x: %+v, %d; not %+v, %d", b, img, f, want, e)
					}
				}
			}
		}
	}
}

func TestP16_2_ByTheChapter(t *testing.T) {
	chance := rand.New(rand.NewSource(1620))
	count := map[api.Errno]int{}
	for n := range 6000 {
		b := toldForm(anyImage(chance, pick(chance, 3, 12, n%513)))
		for range 4 {
			want, e := toldDecode(b)
			if img, f := image.Decode(b); e != f || !alike(img, want) {
				t.Fatalf("%x: %+v, %d; not %+v, %d", b, img, f, want, e)
			}
			count[e]++
			b = damaged(chance, b)
		}
	}
	if count[0] < 6000 || count[errShort] < 3000 || count[errForm] < 3000 {
		t.Error(count)
	}
}

// What is handed in is not changed, nor the room behind its end; what is written into an answer, or behind a list of it, shows nowhere.
func TestP16_2_NewMemory(t *testing.T) {
	b := toldForm(full())
	room := append(bytes.Clone(b), 1, 2, 3)
	was := bytes.Clone(room)
	first, e := image.Decode(room[:len(b)])
	clear(first.Maps[:cap(first.Maps)])
	if !slices.Equal(first.Code, full().Code) {
		t.Error("the lists of an answer share")
	}
	clear(first.Code[:cap(first.Code)])
	again, f := image.Decode(room[:len(b)])
	if e != 0 || f != 0 || !alike(again, full()) || !bytes.Equal(room, was) {
		t.Error(e, f)
	}
	clear(room)
	if !alike(again, full()) {
		t.Error("shared")
	}
}
