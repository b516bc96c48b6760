package verify_test

import (
	"fmt"
	"slices"
	"strings"
	"testing"

	"stockade/api"
	"stockade/scalar"
	"stockade/state"
	"stockade/verify"
)

// Points worked out by hand: what is known at each of them, in the order in which they are kept.
func TestP14_1_Points(t *testing.T) {
	begin := state.Begin()
	length := with(begin, map[int]api.Reg{2: lenOf(both(0, 65535, 0, 65535))})
	placed := with(length, map[int]api.Reg{6: pktAt(0)})
	long, empty := with(placed, map[int]api.Reg{2: lenOf(both(0, 65535, 1, 65535))}), with(placed, map[int]api.Reg{2: lenOf(scalar.Of(0))})
	long.Packet = 1
	points(t, "load32 r2, r1+0\nload64 r6, r1+8\njlt64 r2, 1, +2\nload8 r0, r6+0\nexit\nmov64 r0, 3\nexit\n",
		out(0, begin), out(1, length), out(2, placed), out(3, long),
		out(4, with(long, map[int]api.Reg{0: {Kind: num, S: scalar.Below(8)}})),
		out(5, empty), out(6, with(empty, map[int]api.Reg{0: just(3)})))

	laid := with(begin, map[int]api.Reg{0: just(5)})
	stored := laid
	stored.Stack[63] = api.Slot{Have: 255, R: just(5)}
	half := stored
	half.Stack[63] = api.Slot{Have: 255}
	points(t, "mov64 r0, 5\nstore64 r10-8, r0\nput8 r10-1, 0\nexit\n", out(0, begin), out(1, laid), out(2, stored), out(3, half))

	constant := with(begin, map[int]api.Reg{0: just(1<<32 + 5)})
	points(t, "const r0, 4294967301\nexit\n", out(0, begin), out(2, constant))
}

// Both ways of a lookup's answer.
func TestP14_1_PointsOfALookup(t *testing.T) {
	begin := state.Begin()
	begin.Stack[63] = api.Slot{Have: 128}
	at := with(begin, map[int]api.Reg{2: {Kind: 4, Lo: 512, Hi: 512}})
	key := with(begin, map[int]api.Reg{2: {Kind: 4, Lo: 511, Hi: 511}})
	asked := with(key, map[int]api.Reg{1: {Kind: 5, Map: 1}})
	gone := with(begin, map[int]api.Reg{1: {}, 2: {}})
	found := with(gone, map[int]api.Reg{0: {Kind: cell, Map: 1}})
	points(t, "put8 r10-1, 9\nmov64 r2, r10\nadd64 r2, -1\nmap r1, 1\ncall 1\njne64 r0, 0, +1\nexit\nload16 r0, r0+0\nexit\n",
		out(0, state.Begin()), out(1, begin), out(2, at), out(3, key), out(5, asked),
		out(6, with(gone, map[int]api.Reg{0: {Kind: maybe, Map: 1}})), out(7, with(gone, map[int]api.Reg{0: just(0)})),
		out(8, found), out(9, with(gone, map[int]api.Reg{0: {Kind: num, S: scalar.Below(16)}})))
}

// A point is kept but where one that is kept covers it: a state that tells more than another one goes no further, one that tells less does.
func TestP14_1_Covered(t *testing.T) {
	places(t, "call 5\njset64 r0, r0, +0\nexit\n", 0, 1, 2)                             // twice the same
	places(t, "call 5\njset64 r0, r0, +1\ngoto +1\nmov64 r3, 1\nexit\n", 0, 1, 2, 4, 3) // with r3, where r3 is nothing
	places(t, "call 5\njset64 r0, r0, +1\nmov64 r3, 1\nexit\n", 0, 1, 2, 3, 3)          // the other way
	places(t, "load32 r0, r1+0\njeq64 r0, 5, +0\nexit\n", 0, 1, 2)
	places(t, "load32 r0, r1+4\njeq64 r0, 5, +0\nexit\n", 0, 1, 2)                               // 5 lies between the ends
	places(t, "load32 r0, r1+4\njeq64 r0, 0, +0\nexit\n", 0, 1, 2, 2)                            // 0 does not
	places(t, "load32 r0, r1+4\njlt64 r0, 5, +0\nexit\n", 0, 1, 2, 2)                            // neither is in the other
	places(t, "load32 r0, r1+0\nmov64 r4, r0\njge64 r4, 9, +1\nexit\nexit\n", 0, 1, 2, 3, 4)     // elsewhere
	places(t, "load32 r3, r1+0\nmov64 r0, 1\njge64 r3, 9, +1\nmov64 r3, 0\nmov64 r3, 0\nexit\n", // a longer packet: once by a register, once the other way about
		0, 1, 2, 3, 4, 5, 4)
	places(t, "load32 r3, r1+0\nmov64 r0, 1\njlt64 r3, 9, +1\nmov64 r3, 0\nmov64 r3, 0\nexit\n", 0, 1, 2, 3, 4, 5, 4, 5)

	// At 9 the third state is the first one again, with another one kept between them.
	places(t, "call 5\nmov64 r6, r0\nmov64 r0, 2\njset64 r6, r6, +4\nmov64 r0, 1\njset64 r6, r6, +2\nmov64 r0, 2\nmov64 r7, 0\nmov64 r7, 0\nexit\n",
		0, 1, 2, 3, 4, 5, 6, 7, 8, 9, 8, 9, 8)
}

// spread: a program of n ways that meet at one place: there register 0 is 0 on the first of them that is gone, n - 1 on the second, n - 2 on the third. Behind 2n places, that are come to once each, comes what stands behind.
func spread(n int, behind string) string {
	text := "call 5\nmov64 r6, r0\n"
	for k := n - 1; k > 0; k-- {
		text += fmt.Sprintf("mov64 r0, %d\njset64 r6, r6, +%d\n", n-k, 2*k-1)
	}
	return text + "mov64 r0, 0\n" + behind
}

// ahead: how many places stand ahead of the one where n ways meet.
func ahead(n int) int { return 2*n + 1 }

func meeting(t *testing.T, text string, at int) int {
	t.Helper()
	n := 0
	for _, p := range through(t, text) {
		if p.At == at {
			n++
		}
	}
	return n
}

// At one place 32 points are kept, no more.
func TestP14_1_ManyWays(t *testing.T) {
	for n := 1; n <= 40; n++ {
		if n > 32 {
			refused(t, spread(n, "exit\n"), ahead(n), errMany)
			refused(t, spread(n, "mov64 r7, 1\nexit\n"), ahead(n), errMany)
			continue
		}
		if k := meeting(t, spread(n, "exit\n"), ahead(n)); k != n {
			t.Errorf("%d ways: %d points", n, k)
		}
	}

	// What is covered takes no room: 32 unlike ones, and as many again that are the same.
	if k := meeting(t, spread(32, "jset64 r6, r6, +0\nexit\n"), ahead(32)+1); k != 32 {
		t.Error(k)
	}
	// Behind the meeting all ways are one again.
	if k := meeting(t, spread(32, "mov64 r0, 0\nexit\n"), ahead(32)+1); k != 1 {
		t.Error(k)
	}
	// Two places with 32 points each are not too many.
	if l := through(t, spread(32, "mov64 r7, 1\nexit\n")); len(l) != ahead(32)+64 {
		t.Error(len(l))
	}
}

// The 33rd point at a place is refused when it would be kept: a reason that comes ahead of that is told, one that would come behind it is not.
func TestP14_1_ManyOrAReason(t *testing.T) {
	trap := func(k int) string { // register 0 is no number on the way of that number
		return strings.Replace(spread(33, "exit\n"), fmt.Sprintf("mov64 r0, %d\n", k), "mov64 r0, r10\n", 1)
	}
	for k := range 33 {
		if k == 1 { // the last one of all ways
			refused(t, trap(k), ahead(33), errMany)
		} else {
			refused(t, trap(k), ahead(33), trapKind)
		}
	}
}

// chain: spread into 32 ways, and behind that a line of so many places.
func chain(line int) string {
	return spread(32, strings.Repeat("mov64 r7, 1\n", line-1)+"exit\n")
}

// In all 1024 points are kept, no more: 65 places come to once each, and each of the others 32 times.
func TestP14_1_ManyStates(t *testing.T) {
	for line := 1; line <= 60; line++ {
		before := ahead(32)
		if before+32*line <= 1024 {
			if l := through(t, chain(line)); len(l) != before+32*line {
				t.Errorf("a line of %d: %d points", line, len(l))
			}
			continue
		}
		refused(t, chain(line), before+(1024-before)%line, errMany)
	}
}

// Just 1024 points are let through; a point that is covered is no more, one that is not is refused.
func TestP14_1_ManyStatesToTheEdge(t *testing.T) {
	// 65 and 29 times 32 are 993: with 31 places more ahead of all, each come to once, 1024.
	more := strings.Repeat("mov64 r8, 3\n", 31)
	if l := through(t, more+chain(29)); len(l) != 1024 {
		t.Error(len(l))
	}
	refused(t, more+"mov64 r8, 3\n"+chain(29), 32+ahead(32)+28, errMany) // the last point of all
	refused(t, more+strings.Repeat("mov64 r8, 3\n", 9)+chain(29), 40+ahead(32)+20, errMany)
	refused(t, more+strings.Repeat("mov64 r8, 3\n", 9)+strings.Replace(chain(29), "exit\n", "mov64 r0, r10\nexit\n", 1), 40+ahead(32)+29, trapKind) // the first way has a reason

	// 1024, and at the end of the search one more, which is covered, or is not: the other way of the first jump.
	if l := through(t, "call 5\njset64 r0, r0, +0\n"+more[:len(more)/31*29]+chain(29)); len(l) != 1024 {
		t.Error(len(l))
	}
	refused(t, "call 5\njset64 r0, r0, +1\nmov64 r9, 3\n"+more[:len(more)/31*28]+chain(29), 3, errMany)
}

// A program of as many places as may be, where a way parts at nearly each of them: the pile grows as high as it can.
func TestP14_1_LongPrograms(t *testing.T) {
	for _, to := range []func(left int) int{func(left int) int { return 0 }, func(left int) int { return left }, func(left int) int { return left / 2 }} {
		text := "call 5\nmov64 r6, r0\n"
		for left := 508; left >= 0; left-- {
			text += fmt.Sprintf("jset64 r6, r6, +%d\n", to(left))
		}
		l := through(t, text+"exit\n") // all that comes to a place is the same
		for k, p := range l {
			if p.At != k {
				t.Errorf("the point %d is at %d", k, p.At)
			}
		}
		if len(l) != 512 {
			t.Error(len(l))
		}
	}
}

// What is told is told again, though places stand in a map; and what is written into an answer shows nowhere.
func TestP14_1_NewMemory(t *testing.T) {
	for _, text := range []string{chain(20), spread(32, "exit\n")} {
		img := image(t, text)
		r, _ := verify.Run(img)
		want := slices.Clone(r.Points)
		clear(r.Points[:cap(r.Points)])
		again, e := verify.Run(img)
		if e != 0 || again.At != 0 || !slices.Equal(again.Points, want) {
			t.Errorf("%d: %d and %d points", e, len(again.Points), len(want))
		}
	}
}

// An image that is handed in is not changed, with the room behind its ends.
func TestP14_1_Unchanged(t *testing.T) {
	for _, text := range []string{chain(20), "exit\n", "goto -1\n", "mov64 r0, 1\nexit\nexit\n"} {
		img := image(t, text)
		whole := api.Image{Maps: append(img.Maps, img.Maps...), Code: append(img.Code, img.Code...)}
		was := api.Image{Maps: slices.Clone(whole.Maps), Code: slices.Clone(whole.Code)}
		a, e := verify.Run(img)
		b, f := verify.Run(api.Image{Maps: whole.Maps[:4], Code: whole.Code[:len(img.Code)]})
		if e != f || a.At != b.At || !slices.Equal(a.Points, b.Points) {
			t.Errorf("%q: %d at %d, and %d at %d", text, e, a.At, f, b.At)
		}
		if !slices.Equal(was.Maps, whole.Maps) || !slices.Equal(was.Code, whole.Code) {
			t.Errorf("%q: changed", text)
		}
	}
}
