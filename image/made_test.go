package image_test

import (
	"encoding/hex"
	"math/rand"
	"slices"
	"strings"
	"testing"

	"stockade/api"
	"stockade/image"
)

const (
	errLong  = 3
	errShort = 4
	errForm  = 5
	errReg   = 21
	errMap   = 26

	mostMaps = 4
	mostCode = 512
	mostData = 65536
)

func pick[T any](chance *rand.Rand, l ...T) T { return l[chance.Intn(len(l))] }

// form: the bytes that stand in a text.
func form(t *testing.T, text string) []byte {
	t.Helper()
	b, e := hex.DecodeString(strings.ReplaceAll(text, " ", ""))
	if e != nil {
		t.Fatal(e)
	}
	return b
}

func mapsAlone(maps ...api.Map) api.Image  { return api.Image{Maps: maps} }
func codeAlone(code ...api.Insn) api.Image { return api.Image{Code: code} }

// both: some bytes with others behind them, in new memory.
func both(a, b []byte) []byte { return append(slices.Clone(a), b...) }

// full: as many maps and places as may be, no two alike.
func full() api.Image {
	var img api.Image
	for k := range mostMaps {
		img.Maps = append(img.Maps, api.Map{Kind: k, Key: 100 + k, Value: 200 + k, Cap: 255 - k})
	}
	for k := range mostCode {
		img.Code = append(img.Code, api.Insn{Op: byte(k), Dst: byte(k % 16), Src: byte(k / 16 % 16), Off: int16(k - 256), Imm: int32(k*8388607 - 1<<31)})
	}
	return img
}

func cloned(img api.Image) api.Image {
	return api.Image{Maps: slices.Clone(img.Maps), Code: slices.Clone(img.Code)}
}

// alike: whether two images are the same, whatever Same says.
func alike(a, b api.Image) bool {
	if len(a.Maps) != len(b.Maps) || len(a.Code) != len(b.Code) {
		return false
	}
	for k := range a.Maps {
		x, y := a.Maps[k], b.Maps[k]
		if x.Kind != y.Kind || x.Key != y.Key || x.Value != y.Value || x.Cap != y.Cap {
			return false
		}
	}
	for k := range a.Code {
		x, y := a.Code[k], b.Code[k]
		if x.Op != y.Op || x.Dst != y.Dst || x.Src != y.Src || x.Off != y.Off || x.Imm != y.Imm {
			return false
		}
	}
	return true
}

// encodes: that Encode tells these bytes.
func encodes(t *testing.T, name string, img api.Image, want []byte) {
	t.Helper()
	if b, e := image.Encode(img); e != 0 || !slices.Equal(b, want) {
		t.Errorf("%s: %x, %d; not %x", name, b, e, want)
	}
}

// refused: that Encode refuses an image.
func refused(t *testing.T, name string, img api.Image, want api.Errno) {
	t.Helper()
	if b, e := image.Encode(img); e != want || len(b) > 0 {
		t.Errorf("%s: %x, %d; not %d", name, b, e, want)
	}
}

// decodes: that Decode tells this image.
func decodes(t *testing.T, name string, b []byte, want api.Image) {
	t.Helper()
	if img, e := image.Decode(b); e != 0 || !alike(img, want) {
		t.Errorf("%s: %+v, %d; not %+v", name, img, e, want)
	}
}

// unread: that Decode refuses the bytes.
func unread(t *testing.T, name string, b []byte, want api.Errno) {
	t.Helper()
	if img, e := image.Decode(b); e != want || !alike(img, api.Image{}) {
		t.Errorf("%s: %+v, %d; not %d", name, img, e, want)
	}
}

// anyMap: each field from 0 to 255.
func anyMap(chance *rand.Rand) api.Map {
	one := func() int { return pick(chance, 0, 1, 4, 255, chance.Intn(256)) }
	return api.Map{Kind: one(), Key: one(), Value: one(), Cap: one()}
}

// anyInsn: what eight bytes may be.
func anyInsn(chance *rand.Rand) api.Insn {
	return api.Insn{Op: byte(chance.Intn(256)), Dst: byte(chance.Intn(16)), Src: byte(chance.Intn(16)),
		Off: pick(chance, -32768, -1, 0, 32767, int16(chance.Intn(65536))), Imm: pick(chance, -1<<31, -1, 0, 1<<31-1, int32(chance.Uint32()))}
}

// anyImage: one that has a form, with up to so many places.
func anyImage(chance *rand.Rand, places int) api.Image {
	var img api.Image
	for range chance.Intn(mostMaps + 1) {
		img.Maps = append(img.Maps, anyMap(chance))
	}
	for range chance.Intn(places + 1) {
		img.Code = append(img.Code, anyInsn(chance))
	}
	return img
}

// spoilt: an image like this one, but with a field, or with maps or places more, for which there may be no room in a form.
func spoilt(chance *rand.Rand, img api.Image) api.Image {
	img = cloned(img)
	switch n := pick(chance, -1<<63, -257, -256, -1, 255, 256, 257, 1<<32, 1<<32+1, 1<<63-1); chance.Intn(8) {
	case 0:
		img.Maps = append(img.Maps, make([]api.Map, chance.Intn(6))...)
	case 1:
		img.Code = append(img.Code, make([]api.Insn, chance.Intn(600))...)
	case 2, 3, 4:
		if len(img.Maps) > 0 {
			m := &img.Maps[chance.Intn(len(img.Maps))]
			*pick(chance, &m.Kind, &m.Key, &m.Value, &m.Cap) = n
		}
	default:
		if len(img.Code) > 0 {
			i := &img.Code[chance.Intn(len(img.Code))]
			*pick(chance, &i.Dst, &i.Src) = pick[byte](chance, 15, 16, 17, 32, 128, 255)
		}
	}
	return img
}

// damaged: bytes like these, but for one thing.
func damaged(chance *rand.Rand, b []byte) []byte {
	b = slices.Clone(b)
	if len(b) == 0 {
		return []byte{byte(chance.Intn(7))}
	}
	k := chance.Intn(len(b))
	switch chance.Intn(7) {
	case 0:
		return b[:k]
	case 1:
		return append(b, byte(chance.Intn(3)))
	case 2:
		b[k] ^= 1 << chance.Intn(8)
	case 3:
		return slices.Insert(b, k, byte(chance.Intn(256)))
	case 4:
		return slices.Delete(b, k, k+1)
	case 5:
		b[0] = byte(chance.Intn(7))
	default:
		k := 1 + 4*int(b[0]) + chance.Intn(2) // where it says how many places there are
		if k < len(b) {
			b[k] = pick[byte](chance, 0, 1, 2, 3, 255)
		}
	}
	return b
}
