package asm_test

import (
	"math/rand"
	"slices"
	"strings"
	"testing"

	"stockade/api"
	"stockade/asm"
)

func TestP3_3_ParseOfPrint(t *testing.T) {
	chance, ops := rand.New(rand.NewSource(33)), allOps()
	for n := range 600 {
		code := program(chance, ops, n%513)
		s, e := asm.Print(code)
		l, line, f := asm.Parse(s)
		if e != api.OK || !slices.Equal(l, code) || line != 0 || f != api.OK {
			t.Fatalf("%+v: %q, %d; %+v, %d, %d", code, s, e, l, line, f)
		}
	}
}

// The longest lines there are: as many as may be are no text that is too long.
func TestP3_3_LongestText(t *testing.T) {
	code := slices.Repeat([]api.Insn{{Op: 0x66, Dst: 10, Off: -32768, Imm: -2147483648}}, 512)
	s, e := asm.Print(code)
	if l, n, f := asm.Parse(s); e != api.OK || !slices.Equal(l, code) || n != 0 || f != api.OK {
		t.Error(len(s), e, len(l), n, f)
	}
}

func TestP3_3_PrintOfParse(t *testing.T) {
	chance, ops := rand.New(rand.NewSource(34)), allOps()
	taken := 0
	for range 50000 {
		s := edited(chance, textOf(program(chance, ops, 3)))
		l, _, e := asm.Parse(s)
		if e != api.OK {
			continue
		}
		taken++
		if back, f := asm.Print(l); back != s || f != api.OK {
			t.Fatalf("%q: %+v; %q, %d", s, l, back, f)
		}
	}
	if taken < 5000 {
		t.Error("too few texts are left: ", taken)
	}
}

func TestP3_3_UnlikeTexts(t *testing.T) {
	chance, ops := rand.New(rand.NewSource(35)), allOps()
	by := map[string][]api.Insn{}
	for range 50000 {
		code := some(chance, ops)
		s, e := asm.Print(code)
		if e != api.OK {
			t.Fatal(code, e)
		}
		if was, is := by[s]; is && !slices.Equal(was, code) {
			t.Fatalf("%+v and %+v: %q", was, code, s)
		}
		by[s] = code
	}
}

func TestP3_4_TwoTexts(t *testing.T) {
	chance, ops := rand.New(rand.NewSource(36)), allOps()
	for range 2000 {
		a, b := program(chance, ops, chance.Intn(400)), program(chance, ops, chance.Intn(400))
		s, _ := asm.Print(a)
		u, _ := asm.Print(b)
		l, n, e := asm.Parse(s + u)
		if both := slices.Concat(a, b); len(both) <= 512 {
			if !slices.Equal(l, both) || n != 0 || e != api.OK {
				t.Fatalf("%q and %q: %+v, %d, %d", s, u, l, n, e)
			}
		} else if len(l) != 0 || n <= strings.Count(s, "\n") || e != api.ErrLong {
			t.Fatalf("%d and %d places: %d, %d, %d", len(a), len(b), len(l), n, e)
		}
	}
}
