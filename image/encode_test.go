package image_test

import (
	"bytes"
	"fmt"
	"math/rand"
	"testing"

	"stockade/api"
	"stockade/image"
)

func TestP16_1_Examples(t *testing.T) {
	encodes(t, "an Exit", codeAlone(api.Insn{Op: 0x95}), form(t, "00 01 00 95 00 00 00 00 00 00 00"))
	encodes(t, "a map", mapsAlone(api.Map{Kind: 2, Key: 4, Value: 8, Cap: 16}), form(t, "01 02 04 08 10 00 00"))
	encodes(t, "nothing", api.Image{}, form(t, "00 00 00"))
	encodes(t, "nothing, not nil", api.Image{Maps: []api.Map{}, Code: []api.Insn{}}, form(t, "00 00 00"))
	refused(t, "Cap 256", mapsAlone(api.Map{Cap: 256}), errMap)
	refused(t, "Dst 16", codeAlone(api.Insn{Dst: 16}), errReg)
}

// Maps in their order, then places in theirs, each field where it stands.
func TestP16_1_Form(t *testing.T) {
	img := api.Image{
		Maps: []api.Map{{Kind: 1, Key: 2, Value: 3, Cap: 4}, {}, {Kind: 255, Key: 254, Value: 253, Cap: 252}},
		Code: []api.Insn{{Op: 0x18, Dst: 1, Src: 2, Off: -1, Imm: -2147483647}, {}, {Op: 255, Dst: 15, Off: 258, Imm: 67305985}, {Src: 15, Off: -32768, Imm: -2}},
	}
	encodes(t, "three maps, four places", img, form(t, "03 01020304 00000000 fffefdfc 0400"+
		"18 21 ffff 01000080"+"0000000000000000"+"ff 0f 0201 01020304"+"00 f0 0080 feffffff"))
}

// Each number of maps with each of places that a limit or a byte's end lies at.
func TestP16_1_Counts(t *testing.T) {
	for maps := range 8 {
		for _, places := range []int{0, 1, 2, 255, 256, 257, 511, 512, 513, 514, 767, 768, 1024, 65535, 65536, 65537} {
			name := fmt.Sprint(maps, " maps, ", places, " places")
			img := api.Image{Maps: make([]api.Map, maps), Code: make([]api.Insn, places)}
			if maps > 4 || places > 512 {
				refused(t, name, img, errLong)
				continue
			}
			want := make([]byte, 3+4*maps+8*places)
			want[0], want[1+4*maps], want[2+4*maps] = byte(maps), byte(places%256), byte(places/256)
			encodes(t, name, img, want)
		}
	}
	if b, e := image.Encode(full()); e != 0 || len(b) != 4115 || !bytes.Equal(b, toldForm(full())) {
		t.Error(len(b), e)
	}
	for _, n := range []int{256, 257, 260, 512, 65536} {
		refused(t, fmt.Sprint(n, " maps"), api.Image{Maps: make([]api.Map, n)}, errLong)
	}
}

// Each field of each map, at the ends of a byte and beyond.
func TestP16_1_MapsFields(t *testing.T) {
	for maps := 1; maps <= 4; maps++ {
		for k := range 4 * maps {
			for _, n := range []int{-1 << 63, -1 << 32, -256, -255, -2, -1, 0, 1, 127, 128, 254, 255, 256, 257, 511, 512, 65536, 1 << 32, 1<<32 + 7, 1<<63 - 1} {
				img := mapsAlone(make([]api.Map, maps)...)
				m := &img.Maps[k/4]
				*[]*int{&m.Kind, &m.Key, &m.Value, &m.Cap}[k%4] = n
				name := fmt.Sprint(n, " as number ", k, " of ", maps, " maps")
				if n < 0 || n > 255 {
					refused(t, name, img, errMap)
					continue
				}
				want := make([]byte, 3+4*maps)
				want[0], want[1+k] = byte(maps), byte(n)
				encodes(t, name, img, want)
			}
		}
	}
}

// Each register that eight bytes have room for, and no other one.
func TestP16_1_Registers(t *testing.T) {
	for dst := range 256 {
		for src := range 256 {
			img := codeAlone(api.Insn{}, api.Insn{Dst: byte(dst), Src: byte(src)}, api.Insn{Op: 0x95})
			if dst > 15 || src > 15 {
				refused(t, fmt.Sprint(dst, src), img, errReg)
				continue
			}
			want := form(t, "00 0300 0000000000000000 0000000000000000 9500000000000000")
			want[12] = byte(16*src + dst)
			encodes(t, fmt.Sprint(dst, src), img, want)
		}
	}
	for k := range mostCode {
		img := full()
		img.Code[k].Dst = 16
		refused(t, fmt.Sprint("Dst at ", k), img, errReg)
		img.Code[k].Dst, img.Code[k].Src = 0, 16
		refused(t, fmt.Sprint("Src at ", k), img, errReg)
	}
}

// ErrLong comes ahead of ErrMap, and that of ErrReg.
func TestP16_1_Order(t *testing.T) {
	badMaps, badCode := []api.Map{{Kind: -1}, {}, {}, {Cap: 256}}, []api.Insn{{Dst: 16}, {Src: 255}}
	refused(t, "a map and a place", api.Image{Maps: badMaps, Code: badCode}, errMap)
	refused(t, "the last map's last field and the first place", api.Image{Maps: []api.Map{{}, {Cap: 256}}, Code: badCode}, errMap)
	refused(t, "too many maps", api.Image{Maps: append(badMaps, api.Map{}), Code: badCode}, errLong)
	refused(t, "too many places", api.Image{Maps: badMaps, Code: append(badCode, make([]api.Insn, 511)...)}, errLong)
	refused(t, "too many places, the maps right", codeAlone(append(badCode, make([]api.Insn, 511)...)...), errLong)
	refused(t, "too many maps, the code right", api.Image{Maps: append(badMaps, api.Map{}), Code: []api.Insn{{Op: 0x95}}}, errLong)
	refused(t, "as many places as may be", codeAlone(append(badCode, make([]api.Insn, 510)...)...), errReg)
}

// It is not asked whether an image is right.
func TestP16_1_NotRight(t *testing.T) {
	encodes(t, "no code, a map of no kind", mapsAlone(api.Map{Kind: 99, Key: 255}), form(t, "01 63ff0000 0000"))
	encodes(t, "what no instruction is", codeAlone(api.Insn{Op: 0xff, Dst: 15, Src: 15, Off: -1, Imm: -1}), form(t, "00 0100 ffffffffffffffff"))
	encodes(t, "a Const without its second half", codeAlone(api.Insn{Op: 0x18}), form(t, "00 0100 1800000000000000"))
}

func TestP16_1_ByTheChapter(t *testing.T) {
	chance := rand.New(rand.NewSource(1610))
	count := map[api.Errno]int{}
	for n := range 6000 {
		img := anyImage(chance, pick(chance, 3, 12, n%513))
		for range chance.Intn(4) {
			img = spoilt(chance, img)
		}
		want, e := toldEncode(img)
		if b, f := image.Encode(img); e != f || !bytes.Equal(b, want) {
			t.Fatalf("%+v: %x, %d; not %x, %d", img, b, f, want, e)
		}
		count[e]++
	}
	if count[0] < 2000 || count[errLong] < 300 || count[errMap] < 300 || count[errReg] < 300 {
		t.Error(count)
	}
}

// What is handed in is not changed, nor the room behind its ends; what is written into an answer shows nowhere.
func TestP16_1_NewMemory(t *testing.T) {
	room := full()
	room.Maps[3], room.Code[511] = api.Map{Kind: -1}, api.Insn{Dst: 16}
	was, part := cloned(room), api.Image{Maps: room.Maps[:3], Code: room.Code[:511]}
	first, e := image.Encode(part)
	want := bytes.Clone(first)
	clear(first[:cap(first)])
	again, f := image.Encode(part)
	if e != 0 || f != 0 || !bytes.Equal(again, want) || !bytes.Equal(want, toldForm(part)) || !alike(room, was) {
		t.Error(e, f)
	}
	clear(room.Maps)
	clear(room.Code)
	if !bytes.Equal(again, want) {
		t.Error("shared")
	}
}
