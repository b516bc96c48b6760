package shape_test

import (
	"math"
	"math/rand"
	"slices"

	"stockade/api"
	"stockade/insn"
)

// told: what chapter 4 says of an image, rule by rule, each looked for by itself.
func told(img api.Image) (int, api.Errno) {
	code, maps := img.Code, img.Maps
	if len(code) == 0 {
		return 0, 4
	}
	if len(code) > 512 || len(maps) > 4 {
		return 0, 3
	}
	if n := slices.IndexFunc(maps, mayNot); n >= 0 {
		return n, 26
	}
	at := toldStarts(code)
	for _, a := range at {
		if e := toldOne(code, a, len(maps)); e != 0 {
			return a, e
		}
	}
	for _, a := range at {
		if w, _ := insn.Of(code[a]); w.Class == 6 || w.Class == 7 {
			if !slices.Contains(at, a+1+int(code[a].Off)) {
				return a, 24
			}
		}
	}
	last := at[len(at)-1]
	if code[last].Op != 0x05 && code[last].Op != 0x95 {
		return last, 25
	}
	return 0, 0
}

func mayNot(m api.Map) bool {
	in := func(n, most int) bool { return 1 <= n && n <= most }
	return !(in(m.Kind, 3) && in(m.Key, 16) && in(m.Value, 64) && in(m.Cap, 64)) || m.Kind == 1 && m.Key != 4
}

// toldOne: rule 3, of the instruction at a.
func toldOne(code []api.Insn, a, maps int) api.Errno {
	i := code[a]
	if _, e := insn.Of(i); e != 0 {
		return e
	}
	if i.Op == 0x18 {
		if a+1 == len(code) {
			return 23
		}
		h := code[a+1]
		if h.Op != 0 || h.Dst != 0 || h.Src != 0 || h.Off != 0 || i.Src == 1 && h.Imm != 0 {
			return 23
		}
		if i.Src == 1 && !(0 <= i.Imm && int(i.Imm) < maps) {
			return 26
		}
	}
	if i.Op == 0x85 && !slices.Contains([]int32{1, 2, 3, 5, 7}, i.Imm) {
		return 27
	}
	return 0
}

// toldStarts: the places at which instructions begin, rising.
func toldStarts(code []api.Insn) []int {
	var at []int
	for a := 0; a < len(code); a++ {
		at = append(at, a)
		if _, e := insn.Of(code[a]); e == 0 && code[a].Op == 0x18 {
			a++
		}
	}
	return at
}

var (
	exit = api.Insn{Op: 0x95}
	mov  = api.Insn{Op: 0xb7}
	wide = api.Insn{Op: 0x18}
	ref  = api.Insn{Op: 0x18, Src: 1}
	good = api.Map{Kind: 1, Key: 4, Value: 8, Cap: 1}
)

func jump(off int16) api.Insn       { return api.Insn{Op: 0x15, Off: off} }
func leap(off int16) api.Insn       { return api.Insn{Op: 0x05, Off: off} }
func call(n int32) api.Insn         { return api.Insn{Op: 0x85, Imm: n} }
func plain(c ...api.Insn) api.Image { return api.Image{Code: c} }

func mapped(maps int, c ...api.Insn) api.Image {
	return api.Image{Maps: slices.Repeat([]api.Map{good}, maps), Code: c}
}

func pick[T any](chance *rand.Rand, l ...T) T { return l[chance.Intn(len(l))] }

// anyInsn: an instruction of any Op, or one that is none.
func anyInsn(chance *rand.Rand) api.Insn {
	i := api.Insn{Op: byte(chance.Intn(256)), Dst: byte(chance.Intn(12)), Src: byte(chance.Intn(12)), Off: int16(chance.Intn(9) - 4), Imm: int32(chance.Intn(12) - 2)}
	if chance.Intn(2) == 0 {
		i.Op = pick[byte](chance, 0x05, 0x18, 0x85, 0x95, 0xd7, 0xb7, 0x79, 0x15, 0x1d, 0x00)
	}
	if chance.Intn(2) == 0 {
		i.Dst = 0
	}
	if chance.Intn(2) == 0 {
		i.Src = pick[byte](chance, 0, 0, 1, 2)
	}
	if chance.Intn(2) == 0 {
		i.Off = pick[int16](chance, 0, 0, 0, math.MaxInt16, math.MinInt16)
	}
	if chance.Intn(2) == 0 {
		i.Imm = pick[int32](chance, 0, 0, 0, 16, 32, 64, math.MaxInt32, math.MinInt32)
	}
	return i
}

func anyMap(chance *rand.Rand) api.Map {
	m := api.Map{Kind: 1 + chance.Intn(3), Key: 1 + chance.Intn(16), Value: 1 + chance.Intn(64), Cap: 1 + chance.Intn(64)}
	if m.Kind == 1 {
		m.Key = 4
	}
	return m
}

// mended: an instruction of some class with fields as rule 3 asks, with its second half.
func mended(chance *rand.Rand, maps int) []api.Insn {
	for {
		i := anyInsn(chance)
		if i.Op == 0x85 {
			i.Imm = pick[int32](chance, 1, 2, 3, 5, 7)
		}
		if i.Op == 0x18 && i.Src == 1 {
			i.Imm = int32(chance.Intn(maps + 1))
		}
		c := []api.Insn{i}
		if i.Op == 0x18 {
			c = append(c, api.Insn{})
			if i.Src == 0 {
				c[1].Imm = pick[int32](chance, 0, 1, -1, math.MaxInt32, math.MinInt32, chance.Int31())
			}
		}
		if toldOne(c, 0, maps) == 0 {
			return c
		}
	}
}

// right: an image of at most so many places (2 and more) that is put together so that it must be right.
func right(chance *rand.Rand, most int) api.Image {
	img := api.Image{}
	for range chance.Intn(5) {
		img.Maps = append(img.Maps, anyMap(chance))
	}
	for n := chance.Intn(most - 1); len(img.Code) < n; {
		img.Code = append(img.Code, mended(chance, len(img.Maps))...)
	}
	img.Code = append(img.Code, pick(chance, exit, leap(0)))
	at := toldStarts(img.Code)
	for _, a := range at {
		if w, _ := insn.Of(img.Code[a]); w.Class == 6 || w.Class == 7 {
			img.Code[a].Off = int16(pick(chance, at...) - a - 1)
		}
	}
	return img
}

// edited: an image with one or two things changed, often no more right.
func edited(chance *rand.Rand, img api.Image) api.Image {
	img = api.Image{Maps: slices.Clone(img.Maps), Code: slices.Clone(img.Code)}
	for range 1 + chance.Intn(2) {
		a := chance.Intn(len(img.Code) + 1)
		switch chance.Intn(8) {
		case 0:
			img.Code = slices.Insert(img.Code, a, pick(chance, anyInsn(chance), exit, wide, ref))
		case 1:
			img.Code = img.Code[:a]
		case 2:
			img.Code = slices.Delete(img.Code, a, min(a+1, len(img.Code)))
		case 3:
			if len(img.Maps) > 0 {
				m := &img.Maps[chance.Intn(len(img.Maps))]
				*pick(chance, &m.Kind, &m.Key, &m.Value, &m.Cap) = pick(chance, -1, 0, 1, 2, 3, 4, 5, 16, 17, 64, 65, math.MaxInt, math.MinInt)
			}
		case 4:
			if len(img.Maps) > 0 {
				img.Maps = img.Maps[1:]
			} else {
				img.Maps = slices.Repeat([]api.Map{good}, 4+chance.Intn(2))
			}
		default:
			if a < len(img.Code) {
				img.Code[a] = changed(chance, img.Code[a])
			}
		}
	}
	return img
}

// changed: an instruction with one field changed.
func changed(chance *rand.Rand, i api.Insn) api.Insn {
	switch chance.Intn(6) {
	case 0:
		i.Op ^= 1 << chance.Intn(8)
	case 1:
		i.Dst = pick[byte](chance, 0, 1, 9, 10, 11, 255)
	case 2:
		i.Src = pick[byte](chance, 0, 1, 2, 9, 10, 11, 255)
	case 3:
		i.Off += int16(pick(chance, -1, 1))
	case 4:
		i.Imm += int32(pick(chance, -1, 1, 256, math.MinInt32))
	default:
		i = anyInsn(chance)
	}
	return i
}
