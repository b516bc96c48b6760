package shape_test

import (
	"math/rand"
	"slices"
	"testing"

	"stockade/api"
	"stockade/insn"
	"stockade/shape"
)

// rightOnes hands on images that Check calls right: some put together so, some changed and right all the same.
func rightOnes(t *testing.T, seed int64, f func(chance *rand.Rand, img api.Image)) {
	t.Helper()
	chance := rand.New(rand.NewSource(seed))
	stayed := 0
	for n := range 15000 {
		img := right(chance, 2+n%40)
		if n%2 == 0 {
			img = edited(chance, img)
		}
		at, e := shape.Check(img)
		switch {
		case e == api.OK && at != 0:
			t.Fatalf("%+v: %d beside OK", img, at)
		case e == api.OK:
			f(chance, img)
		case n%2 == 1:
			t.Fatalf("%+v: %d, %d", img, at, e)
		}
		if n%2 == 0 && e == api.OK {
			stayed++
		}
	}
	if stayed < 500 {
		t.Error("too few of those that were changed are right: ", stayed)
	}
}

func TestP4_3_NextOne(t *testing.T) {
	rightOnes(t, 45, func(_ *rand.Rand, img api.Image) {
		starts := shape.Starts(img.Code)
		begins := func(at int) bool { return 0 <= at && at < len(starts) && starts[at] }
		for at, i := range img.Code {
			if !starts[at] {
				continue
			}
			w, e := insn.Of(i)
			if e != api.OK {
				t.Fatalf("%+v: at %d: %d", img, at, e)
			}
			if w.Class != insn.Goto && w.Class != insn.Exit && !begins(at+insn.Places(i)) {
				t.Fatalf("%+v: nothing begins behind %d", img, at)
			}
			if (w.Class == insn.Goto || w.Class == insn.Jump) && !begins(shape.Target(at, i)) {
				t.Fatalf("%+v: nothing begins at the target of %d", img, at)
			}
		}
	})
}

func TestP4_4_OtherInstructionsBehind(t *testing.T) {
	chance := rand.New(rand.NewSource(46))
	count := map[api.Errno]int{}
	for n := range 30000 {
		img := edited(chance, right(chance, 2+n%24))
		at, e := shape.Check(img)
		if e == api.OK || e == api.ErrJump || e == api.ErrFall {
			continue
		}
		from := keptPlaces(img, at, e)
		code := slices.Clone(img.Code)
		for range 4 {
			for a := from; a < len(code); a++ {
				code[a] = pick(chance, anyInsn(chance), api.Insn{}, wide, leap(-1))
			}
			if a, f := shape.Check(api.Image{Maps: img.Maps, Code: code}); a != at || f != e {
				t.Fatalf("%+v: %d, %d; with %+v: %d, %d", img, at, e, code, a, f)
			}
		}
		count[e]++
	}
	for _, e := range []api.Errno{api.ErrShort, api.ErrLong, api.ErrMap, api.ErrOp, api.ErrReg, api.ErrZero, api.ErrWide, api.ErrCall} {
		if count[e] < 50 {
			t.Errorf("too few images are told %d: %d", e, count[e])
		}
	}
}

// keptPlaces: on how many places what is told hangs: none, by the rules 1 and 2; else up to the one that is told, and of a Const or a Ref the one behind it.
func keptPlaces(img api.Image, at int, e api.Errno) int {
	switch {
	case e == api.ErrShort || e == api.ErrLong || slices.ContainsFunc(img.Maps, mayNot):
		return 0
	case e == api.ErrWide || e == api.ErrMap:
		return at + 2
	}
	return at + 1
}

func TestP4_5_OneMoreMap(t *testing.T) {
	rightOnes(t, 47, func(chance *rand.Rand, img api.Image) {
		img.Maps = slices.Insert(slices.Clone(img.Maps), len(img.Maps), anyMap(chance))
		want := api.OK
		if len(img.Maps) > 4 {
			want = api.ErrLong
		}
		if at, e := shape.Check(img); at != 0 || e != want {
			t.Fatalf("%+v: %d, %d", img, at, e)
		}
	})
}

func TestP4_5_AnExitBehind(t *testing.T) {
	rightOnes(t, 48, func(_ *rand.Rand, img api.Image) {
		img.Code = append(slices.Clone(img.Code), exit)
		if at, e := shape.Check(img); at != 0 || e != api.OK {
			t.Fatalf("%+v: %d, %d", img, at, e)
		}
	})
}

func TestP4_5_AsFarAsTheLimitsLetIt(t *testing.T) {
	code := []api.Insn{exit}
	for n := 1; n <= 520; n++ {
		want := api.OK
		if n > 512 {
			want = api.ErrLong
		}
		if at, e := shape.Check(plain(code...)); at != 0 || e != want {
			t.Fatalf("%d: %d, %d", n, at, e)
		}
		code = append(code, exit)
	}
}
