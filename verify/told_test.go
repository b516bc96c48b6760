package verify_test

import (
	"math/rand"
	"slices"
	"testing"

	"stockade/api"
	"stockade/flow"
	"stockade/shape"
	"stockade/state"
	"stockade/verify"
)

// tale: what the chapter says of an image, rule by rule. A way is gone to its end ahead of the next one by calls that call themselves, and all points that are kept are looked through, wherever they stand.
type tale struct {
	img    api.Image
	points []flow.Out
	at     int
	wrong  api.Errno
}

func told(img api.Image) (verify.Report, api.Errno) {
	x := &tale{img: img}
	x.at, x.wrong = shape.Check(img)
	if x.wrong == 0 && loops(img.Code, 0, map[int]bool{}, map[int]bool{}) {
		x.wrong = errLoop
	}
	if x.wrong == 0 {
		x.dead()
	}
	x.visit(flow.Out{S: state.Begin()})
	if x.wrong != 0 {
		return verify.Report{At: x.at}, x.wrong
	}
	return verify.Report{Points: x.points}, 0
}

// next: to which places an instruction of a right image leads.
func next(code []api.Insn, at int) []int {
	i := code[at]
	switch target := at + 1 + int(i.Off); {
	case i.Op == 0x95:
		return nil
	case i.Op == 0x05:
		return []int{target}
	case i.Op == 0x18:
		return []int{at + 2}
	case i.Op&7 == 5 && i.Op != 0x85, i.Op&7 == 6:
		return []int{at + 1, target}
	}
	return []int{at + 1}
}

// loops: whether a way from a place on has a place twice; on are the places of the way to it, done those behind which there is none.
func loops(code []api.Insn, at int, on, done map[int]bool) bool {
	if on[at] || done[at] {
		return on[at]
	}
	on[at] = true
	for _, to := range next(code, at) {
		if loops(code, to, on, done) {
			return true
		}
	}
	delete(on, at)
	done[at] = true
	return false
}

func (x *tale) dead() {
	come := map[int]bool{0: true}
	for range x.img.Code { // no way is longer
		for at := range come {
			for _, to := range next(x.img.Code, at) {
				come[to] = true
			}
		}
	}
	for at, begins := range shape.Starts(x.img.Code) {
		if begins && !come[at] {
			x.at, x.wrong = at, errDead
			return
		}
	}
}

func (x *tale) visit(p flow.Out) {
	if x.wrong != 0 {
		return
	}
	there := 0
	for k := range x.points {
		if x.points[k].At == p.At {
			there++
			if state.In(p.S, x.points[k].S) {
				return
			}
		}
	}
	if len(x.points) >= 1024 || there >= 32 {
		x.at, x.wrong = p.At, errMany
		return
	}
	x.points = append(x.points, p)
	l, e := flow.Step(x.img, p.At, p.S)
	if e != 0 {
		x.at, x.wrong = p.At, e
	}
	for _, to := range l {
		x.visit(to)
	}
}

// manyWays: a program whose ways part again and again, and mostly do not become one.
func manyWays(chance *rand.Rand) string {
	text := "call 5\nmov64 r6, r0\nmov64 r7, 0\n"
	for range 1 + chance.Intn(10) {
		text += pick(chance, "lsh64 r7, 1\njset64 r6, r6, +1\nadd64 r7, 1\n", "lsh64 r7, 1\njgt64 r6, 9, +1\nadd64 r7, 1\n", "jset64 r6, r6, +1\nor64 r7, 9\n", "jset64 r6, 1, +1\nmov64 r7, r6\n")
	}
	return text + pick(chance, "", "", "mov64 r7, 0\n") + "mov64 r3, r7\nmov64 r3, 1\nmov64 r0, r7\nexit\n"
}

// anyCode: a program of some kind or other.
func anyCode(t *testing.T, chance *rand.Rand) []api.Insn {
	t.Helper()
	var code []api.Insn
	switch chance.Intn(6) {
	case 0:
		code = line(t, chance, 1+chance.Intn(6))
	case 1:
		code = image(t, manyWays(chance)).Code
	default:
		code = program(t, chance, 1+chance.Intn(9))
	}
	for range pick(chance, 0, 1, 1, 2) {
		code = wrong(chance, code)
	}
	return code
}

// What is told is what the chapter says, of programs of all kinds, as often as tells all numbers apart.
func TestP14_1_ByTheChapter(t *testing.T) {
	chance := rand.New(rand.NewSource(1410))
	count, unshaped := map[api.Errno]int{}, 0
	for range 3000 {
		img := api.Image{Maps: four(), Code: anyCode(t, chance)}
		if chance.Intn(40) == 0 {
			img.Maps = img.Maps[:chance.Intn(4)]
		}
		want, e := told(img)
		r, f := verify.Run(img)
		if e != f || r.At != want.At || !slices.Equal(r.Points, want.Points) {
			t.Fatalf("%+v: %d at %d, %d points; not %d at %d, %d points", img.Code, f, r.At, len(r.Points), e, want.At, len(want.Points))
		}
		count[e]++
		if _, e := shape.Check(img); e != 0 {
			unshaped++
		}
	}
	for _, e := range []api.Errno{0, errLoop, errDead, errMany, trapEmpty, trapKind, trapBound, trapAlign, trapWrite, trapWild} {
		if count[e] < 8 {
			t.Errorf("too few are told %d: %d", e, count[e])
		}
	}
	if unshaped < 50 {
		t.Error("too few that chapter 4 refuses: ", unshaped)
	}
}
