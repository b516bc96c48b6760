package image_test

import (
	"bytes"
	"math/rand"
	"slices"
	"testing"

	"stockade/api"
	"stockade/image"
)

// thereAndBack: that Decode of Encode is the image; tells its form.
func thereAndBack(t *testing.T, img api.Image) []byte {
	t.Helper()
	b, e := image.Encode(img)
	back, f := image.Decode(b)
	if e != 0 || f != 0 || !alike(back, img) || !image.Same(back, img) {
		t.Fatalf("%+v: %x, %d; %+v, %d", img, b, e, back, f)
	}
	return b
}

func TestP16_4_DecodeOfEncode(t *testing.T) {
	thereAndBack(t, api.Image{})
	thereAndBack(t, full())
	chance := rand.New(rand.NewSource(1640))
	for n := range 6000 {
		thereAndBack(t, anyImage(chance, pick(chance, 3, n%513)))
	}
	for n := range mostCode + 1 {
		thereAndBack(t, api.Image{Maps: full().Maps[:n%5], Code: full().Code[:n]})
	}
}

// Whatever bytes Decode takes are the form of what it tells of them.
func TestP16_4_EncodeOfDecode(t *testing.T) {
	chance := rand.New(rand.NewSource(1641))
	taken := 0
	for range 60000 {
		b := toldForm(anyImage(chance, 4))
		for range chance.Intn(3) {
			b = damaged(chance, b)
		}
		img, e := image.Decode(b)
		if e != 0 {
			continue
		}
		taken++
		if back, f := image.Encode(img); f != 0 || !bytes.Equal(back, b) {
			t.Fatalf("%x: %+v; %x, %d", b, img, back, f)
		}
	}
	if taken < 20000 {
		t.Error("too few are left: ", taken)
	}
}

// many: images, unlike and alike, of which many begin as others do.
func many(chance *rand.Rand) []api.Image {
	var l []api.Image
	for range 3000 {
		img := anyImage(chance, 6)
		for k := range img.Maps {
			img.Maps[k] = api.Map{Kind: chance.Intn(2), Key: chance.Intn(2)}
		}
		for k := range img.Code {
			img.Code[k] = api.Insn{Op: byte(chance.Intn(2)), Imm: int32(chance.Intn(2))}
		}
		l = append(l, img, anyImage(chance, 2))
	}
	for n := range mostCode + 1 {
		l = append(l, codeAlone(full().Code[:n]...), codeAlone(make([]api.Insn, n)...))
	}
	for n := range mostMaps + 1 {
		l = append(l, mapsAlone(full().Maps[:n]...), mapsAlone(make([]api.Map, n)...))
	}
	return l
}

func TestP16_4_UnlikeForms(t *testing.T) {
	by := map[string]api.Image{}
	seen := 0
	for _, img := range many(rand.New(rand.NewSource(1642))) {
		b := string(thereAndBack(t, img))
		was, is := by[b]
		if is && !alike(was, img) {
			t.Fatalf("%+v and %+v: %x", was, img, b)
		}
		if is {
			seen++
		}
		by[b] = img
	}
	if len(by) < 3000 || seen < 300 {
		t.Error(len(by), seen)
	}
}

// Were a form the beginning of another one, it would be that of the next one too, when they are sorted.
func TestP16_4_NoBeginning(t *testing.T) {
	var l [][]byte
	for _, img := range many(rand.New(rand.NewSource(1643))) {
		l = append(l, thereAndBack(t, img))
	}
	slices.SortFunc(l, bytes.Compare)
	l = slices.CompactFunc(l, bytes.Equal)
	for k := 1; k < len(l); k++ {
		if bytes.HasPrefix(l[k], l[k-1]) {
			t.Fatalf("%x is the beginning of %x", l[k-1], l[k])
		}
	}
	for _, b := range l[:min(len(l), 500)] {
		for k := range b {
			if img, e := image.Decode(b[:k]); e == 0 {
				t.Fatalf("%x, a beginning of %x: %+v", b[:k], b, img)
			}
		}
	}
}
