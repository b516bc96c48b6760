package image_test

import (
	"math/rand"
	"slices"
	"testing"

	"stockade/api"
	"stockade/image"
)

// are: that Same answers so, whichever comes first.
func are(t *testing.T, name string, a, b api.Image, want bool) {
	t.Helper()
	if image.Same(a, b) != want || image.Same(b, a) != want {
		t.Errorf("%s: not %t", name, want)
	}
}

func TestP16_3_Lists(t *testing.T) {
	one, two := api.Map{Kind: 1}, api.Map{Kind: 2}
	add, exit := api.Insn{Op: 0x07}, api.Insn{Op: 0x95}
	are(t, "nothing", api.Image{}, api.Image{}, true)
	are(t, "nil and empty", api.Image{}, api.Image{Maps: []api.Map{}, Code: []api.Insn{}}, true)
	are(t, "a zero map", api.Image{}, mapsAlone(api.Map{}), false)
	are(t, "a zero place", api.Image{}, codeAlone(api.Insn{}), false)
	are(t, "a map and a place", mapsAlone(api.Map{}), codeAlone(api.Insn{}), false)
	are(t, "maps", mapsAlone(one, two), mapsAlone(one, two), true)
	are(t, "maps in another order", mapsAlone(one, two), mapsAlone(two, one), false)
	are(t, "one map more", mapsAlone(one, two), mapsAlone(one), false)
	are(t, "another last map", mapsAlone(one, two), mapsAlone(one, one), false)
	are(t, "places", codeAlone(add, exit), codeAlone(add, exit), true)
	are(t, "places in another order", codeAlone(add, exit), codeAlone(exit, add), false)
	are(t, "one place more", codeAlone(add, exit), codeAlone(add), false)
	are(t, "one ahead", codeAlone(add, exit), codeAlone(exit), false)
	are(t, "another last place", codeAlone(add, exit), codeAlone(add, add), false)
	are(t, "the maps the same", api.Image{Maps: []api.Map{one}, Code: []api.Insn{add}}, api.Image{Maps: []api.Map{one}, Code: []api.Insn{exit}}, false)
	are(t, "the code the same", api.Image{Maps: []api.Map{one}, Code: []api.Insn{add}}, api.Image{Maps: []api.Map{two}, Code: []api.Insn{add}}, false)
}

// Each field of each map and of each place counts, all of it.
func TestP16_3_Fields(t *testing.T) {
	for k := range mostMaps {
		for _, n := range []int{-1 << 63, -1, 1, 1 << 8, 1 << 16, 1 << 32, 1<<63 - 1} {
			for f := range 4 {
				other := full()
				m := &other.Maps[k]
				*[]*int{&m.Kind, &m.Key, &m.Value, &m.Cap}[f] += n
				are(t, "a map's field", full(), other, false)
				are(t, "a map's field, with itself", other, cloned(other), true)
			}
		}
	}
	img := full()
	for k := range mostCode {
		for bit := range 72 {
			other := cloned(img)
			switch i := &other.Code[k]; {
			case bit < 8:
				i.Op ^= 1 << bit
			case bit < 16:
				i.Dst ^= 1 << (bit - 8)
			case bit < 24:
				i.Src ^= 1 << (bit - 16)
			case bit < 40:
				i.Off ^= int16(1 << (bit - 24))
			default:
				i.Imm ^= int32(1 << (bit - 40))
			}
			are(t, "a place's field", img, other, false)
		}
	}
	are(t, "itself", img, img, true)
	are(t, "its like", img, full(), true)
}

// Images that have no form, and some that are longer than may be, are held against each other all the same.
func TestP16_3_WithoutForm(t *testing.T) {
	long := api.Image{Maps: make([]api.Map, 9), Code: make([]api.Insn, 70000)}
	long.Maps[8].Cap, long.Code[69999].Imm = -7, 7
	other := cloned(long)
	are(t, "long", long, other, true)
	other.Maps[8].Cap = -8
	are(t, "the last map", long, other, false)
	other = cloned(long)
	other.Code[69999].Imm = 8
	are(t, "the last place", long, other, false)
	are(t, "a register", codeAlone(api.Insn{Dst: 16}), codeAlone(api.Insn{Dst: 0, Src: 1}), false)
	are(t, "256 and 0", mapsAlone(api.Map{Kind: 256}), mapsAlone(api.Map{}), false)
}

func TestP16_3_ByTheChapter(t *testing.T) {
	chance := rand.New(rand.NewSource(1630))
	count := map[bool]int{}
	for range 6000 {
		a := anyImage(chance, 5)
		b := pick(chance, cloned(a), spoilt(chance, a), spoilt(chance, spoilt(chance, a)), anyImage(chance, 2))
		want := slices.Equal(a.Maps, b.Maps) && slices.Equal(a.Code, b.Code)
		if want != alike(a, b) {
			t.Fatal(a, b)
		}
		are(t, "two", a, b, want)
		count[want]++
	}
	if count[true] < 1000 || count[false] < 1000 {
		t.Error(count)
	}
}

// What is handed in is not changed; what lies behind the ends of lists does not count.
func TestP16_3_Room(t *testing.T) {
	a, b := full(), full()
	a.Maps[3].Cap++
	a.Code[511].Imm++
	wasA, wasB := cloned(a), cloned(b)
	are(t, "whole", a, b, false)
	are(t, "cut", api.Image{Maps: a.Maps[:3], Code: a.Code[:511]}, api.Image{Maps: b.Maps[:3], Code: b.Code[:511]}, true)
	if !alike(a, wasA) || !alike(b, wasB) {
		t.Error("changed")
	}
}
