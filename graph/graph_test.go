package graph_test

import (
	"math"
	"math/rand"
	"slices"
	"testing"

	"stockade/api"
	"stockade/graph"
)

// chapters: the code of the chapter's examples.
func chapters() []api.Insn { return rows(jump(2), wide, none, exit, leap(-4)) }

func TestP5_1_Rows(t *testing.T) {
	for k, x := range []struct {
		code []api.Insn
		want [][]int // of each place
	}{
		{chapters(), [][]int{{1, 3}, {3}, nil, nil, {1}}},
		{rows(exit), [][]int{nil}},
		{rows(none), [][]int{nil}},
		{rows(mov), [][]int{nil}},
		{rows(mov, mov, exit), [][]int{{1}, {2}, nil}},
		// a Jump: both, rising, each once, itself too
		{rows(exit, jump(-2), exit), [][]int{nil, {0, 2}, nil}},
		{rows(jump(0), exit), [][]int{{1}, nil}},
		{rows(jump(-1), exit), [][]int{{0, 1}, nil}},
		{rows(mov, jump(-1)), [][]int{{1}, {1}}},
		{rows(jump(1), exit, mov), [][]int{{1, 2}, nil, nil}},
		{rows(jump(2), exit, mov), [][]int{{1}, nil, nil}},
		{rows(jump(-2), exit), [][]int{{1}, nil}},
		{rows(mov, exit, jump(-3)), [][]int{{1}, nil, {0}}},
		{rows(jump(math.MaxInt16), exit), [][]int{{1}, nil}},
		{rows(exit, jump(math.MinInt16)), [][]int{nil, nil}},
		// wide or not, by a register or not
		{rows(api.Insn{Op: 0xd6, Dst: 3, Off: 1, Imm: 9}, exit, exit), [][]int{{1, 2}, nil, nil}},
		{rows(api.Insn{Op: 0x2d, Dst: 3, Src: 10, Off: 1}, exit, exit), [][]int{{1, 2}, nil, nil}},
		{rows(api.Insn{Op: 0xae, Off: 1}, exit, exit), [][]int{{1, 2}, nil, nil}},
		// a Goto
		{rows(leap(0), exit), [][]int{{1}, nil}},
		{rows(leap(-1), exit), [][]int{{0}, nil}},
		{rows(leap(1), exit), [][]int{nil, nil}},
		{rows(leap(-2), exit), [][]int{nil, nil}},
		{rows(exit, exit, leap(-3)), [][]int{nil, nil, {0}}},
		{rows(leap(math.MaxInt16), exit), [][]int{nil, nil}},
		// no start is led to at a second half, none leads on from it
		{rows(leap(1), wide, exit, exit), [][]int{nil, {3}, nil, nil}},
		{rows(jump(1), ref, jump(-3), exit), [][]int{{1}, {3}, nil, nil}},
		{rows(wide, leap(-2), leap(-2), jump(-4)), [][]int{{2}, nil, nil, {0}}},
		{rows(wide, wide, wide, wide, exit), [][]int{{2}, nil, {4}, nil, nil}},
		{rows(wide, wide, wide, mov, exit), [][]int{{2}, nil, {4}, nil, nil}},
		{rows(mov, wide, wide, wide, exit), [][]int{{1}, {3}, nil, nil, nil}},
		{rows(wide), [][]int{nil}},
		{rows(wide, exit), [][]int{nil, nil}},
		{rows(ref, none, exit), [][]int{{2}, nil, nil}},
		// what is none leads nowhere and has one place, an Op 18 too
		{rows(none, exit), [][]int{nil, nil}},
		{rows(api.Insn{Op: 0x18, Src: 2}, leap(-1), exit), [][]int{nil, {1}, nil}},
		{rows(api.Insn{Op: 0x18, Dst: 10}, mov, exit), [][]int{nil, {2}, nil}},
		{rows(api.Insn{Op: 0x18, Off: 1}, wide, mov, exit), [][]int{nil, {3}, nil, nil}},
		{rows(api.Insn{Op: 0xb7, Dst: 10}, exit), [][]int{nil, nil}},
		{rows(api.Insn{Op: 0x05, Imm: 1}, exit), [][]int{nil, nil}},
		{rows(api.Insn{Op: 0x15, Dst: 11, Off: 0}, exit), [][]int{nil, nil}},
		{rows(api.Insn{Op: 0xd7, Imm: 8}, exit), [][]int{nil, nil}},
		// all other classes lead on, whatever their Off
		{rows(api.Insn{Op: 0xd7, Imm: 16}, exit), [][]int{{1}, nil}},
		{rows(api.Insn{Op: 0x79, Off: 1}, exit, exit), [][]int{{1}, nil, nil}},
		{rows(api.Insn{Op: 0x7b, Off: -1}, exit, exit), [][]int{{1}, nil, nil}},
		{rows(api.Insn{Op: 0x7a, Off: 1}, exit, exit), [][]int{{1}, nil, nil}},
		{rows(api.Insn{Op: 0x0f}, exit), [][]int{{1}, nil}},
		{rows(api.Insn{Op: 0x85, Imm: 4}, exit), [][]int{{1}, nil}},
	} {
		for at, want := range x.want {
			if l := graph.Next(x.code, at); !slices.Equal(l, want) {
				t.Errorf("row %d: Next of %d: %v, not %v", k, at, l, want)
			}
		}
	}
}

func TestP5_1_NoPlace(t *testing.T) {
	for _, code := range [][]api.Insn{nil, {}, chapters(), rows(exit), rows(mov, wide), chapters()[:2]} {
		for _, at := range []int{-1, -2, -5, len(code), len(code) + 1, math.MaxInt, math.MaxInt - 1, math.MinInt, math.MinInt + 1, 1 << 32, -1 << 32} {
			if l := graph.Next(code, at); len(l) != 0 {
				t.Errorf("%v: Next of %d: %v", code, at, l)
			}
		}
	}
}

func TestP5_1_ByTheChapter(t *testing.T) {
	chance := rand.New(rand.NewSource(51))
	count := [3]int{}
	for n := range 20000 {
		code := anyCode(chance, n%24, 2)
		for at := -2; at < len(code)+3; at++ {
			want := toldNext(code, at)
			if l := graph.Next(code, at); !slices.Equal(l, want) {
				t.Fatalf("%+v: Next of %d: %v, not %v", code, at, l, want)
			}
			count[len(want)]++
		}
	}
	if min(count[0], count[1], count[2]) < 5000 {
		t.Error("too few of some kind: ", count)
	}
}

// Each place of much code is asked of, whatever stands ahead of it.
func TestP5_1_MuchCode(t *testing.T) {
	code := slices.Repeat(rows(wide, wide, jump(1), mov), 1<<17)
	for at := range code {
		var want []int
		switch at % 4 {
		case 0:
			want = []int{at + 2}
		case 2:
			want = []int{at + 1}
			if at+2 < len(code) {
				want = []int{at + 1, at + 2}
			}
		case 3:
			if at+1 < len(code) {
				want = []int{at + 1}
			}
		}
		if l := graph.Next(code, at); !slices.Equal(l, want) {
			t.Fatal(at, l, want)
		}
	}
}

func TestP5_2_Rows(t *testing.T) {
	const y, n = true, false
	for k, x := range []struct {
		code []api.Insn
		want []bool
	}{
		{nil, nil},
		{[]api.Insn{}, nil},
		{chapters(), []bool{y, y, n, y, n}},
		{rows(exit), []bool{y}},
		{rows(none), []bool{y}},
		{rows(exit, exit), []bool{y, n}},
		{rows(none, exit), []bool{y, n}},
		{rows(mov, mov, mov), []bool{y, y, y}},
		{rows(leap(1), exit, exit, exit), []bool{y, n, y, n}},
		{rows(leap(-1), exit), []bool{y, n}},
		{rows(leap(1), exit, leap(-2)), []bool{y, y, y}},
		{rows(jump(1), exit, jump(-3), exit), []bool{y, y, y, y}},
		// a way leads to what one that is not reached leads to, too
		{rows(leap(1), mov, exit), []bool{y, n, y}},
		// no second half is reached, nor what stands there goes on
		{rows(wide, leap(1), exit, exit), []bool{y, n, y, n}},
		{rows(leap(1), wide, exit, exit), []bool{y, n, n, n}},
		{rows(jump(1), ref, leap(1), exit, exit), []bool{y, y, n, y, n}},
		{rows(wide), []bool{y}},
		{rows(wide, exit), []bool{y, n}},
		{rows(api.Insn{Op: 0x18, Src: 2}, none, exit), []bool{y, n, n}},
	} {
		if l := graph.Reached(x.code); !slices.Equal(l, x.want) {
			t.Errorf("row %d: %v, not %v", k, l, x.want)
		}
	}
}

func TestP5_2_ByTheChapter(t *testing.T) {
	chance := rand.New(rand.NewSource(52))
	part := 0
	for n := range 20000 {
		code := anyCode(chance, n%24, 1+n%12)
		want := modelOf(code).reached
		if l := graph.Reached(code); !slices.Equal(l, want) {
			t.Fatalf("%+v: %v, not %v", code, l, want)
		}
		if graph.Dead(code) > 6 {
			part++
		}
	}
	if part < 1000 {
		t.Error("too few codes go far and not to the end: ", part)
	}
}

// told: rows of Order, Longest, Dead.
var told = []struct {
	name    string
	code    []api.Insn
	order   []int
	longest int
	dead    int
	e       api.Errno
}{
	{"no code", nil, nil, 0, -1, api.OK},
	{"no code, not nil", []api.Insn{}, nil, 0, -1, api.OK},
	{"the chapter's", chapters(), []int{0, 1, 3}, 3, 4, api.OK},
	{"the chapter's, with a Goto in the place of the Exit", rows(jump(2), wide, none, leap(-3), leap(-4)), nil, 0, 4, api.ErrLoop},
	{"the chapter's, with a Goto to the second half", rows(jump(2), wide, none, leap(-2), leap(-4)), []int{0, 1, 3}, 3, 4, api.OK},
	{"forth and back", rows(leap(1), exit, leap(-2)), []int{0, 2, 1}, 3, -1, api.OK},
	{"an Exit", rows(exit), []int{0}, 1, -1, api.OK},
	{"none", rows(none), []int{0}, 1, -1, api.OK},
	{"behind an Exit", rows(exit, exit), []int{0}, 1, 1, api.OK},
	{"behind none", rows(none, exit), []int{0}, 1, 1, api.OK},
	{"off the end", rows(mov, mov, mov), []int{0, 1, 2}, 3, -1, api.OK},
	{"off the end, broad", rows(mov, wide, none), []int{0, 1}, 2, -1, api.OK},
	{"half of it", rows(wide), []int{0}, 1, -1, api.OK},
	{"a second half is not dead", rows(wide, none, exit), []int{0, 2}, 2, -1, api.OK},
	{"the second of two", rows(leap(1), wide, exit, exit), []int{0}, 1, 1, api.OK},
	{"dead and broad", rows(exit, ref, none, exit), []int{0}, 1, 1, api.OK},
	{"dead behind a broad one", rows(wide, none, exit, exit), []int{0, 2}, 2, 3, api.OK},
	{"one place of 18", rows(api.Insn{Op: 0x18, Src: 2}, exit, exit), []int{0}, 1, 1, api.OK},
	{"two ways, one longer", rows(jump(2), mov, mov, exit), []int{0, 1, 2, 3}, 4, -1, api.OK},
	{"two ways, one goes back", rows(jump(2), leap(2), exit, jump(-2), exit), []int{0, 1, 3, 2, 4}, 3, -1, api.OK},
	// 0 leads to 1 and 3, 3 to 2: of 1 and 3, 1 is less; of 2 and 4 behind these, 2 is
	{"the least goes first", rows(jump(2), exit, exit, jump(-2), exit), []int{0, 1, 3, 2, 4}, 3, -1, api.OK},
	// 1 waits for 4, which waits for none but 0
	{"the least that may", rows(jump(3), leap(4), exit, exit, jump(-4), leap(-4), exit), []int{0, 4, 1, 5, 2, 6}, 4, 3, api.OK},
	{"to itself", rows(leap(-1)), nil, 0, -1, api.ErrLoop},
	{"to itself, or on", rows(jump(-1), exit), nil, 0, -1, api.ErrLoop},
	{"to the beginning", rows(mov, leap(-2)), nil, 0, -1, api.ErrLoop},
	{"to the beginning, or on", rows(mov, mov, jump(-3), exit), nil, 0, -1, api.ErrLoop},
	{"not to the beginning", rows(mov, mov, jump(-2), exit), nil, 0, -1, api.ErrLoop},
	{"back by a Jump", rows(jump(1), exit, jump(-3), exit), nil, 0, -1, api.ErrLoop},
	{"back, with more behind", rows(jump(1), leap(-2), mov, exit, exit), nil, 0, 4, api.ErrLoop},
	{"a loop that is not reached", rows(exit, leap(-1)), []int{0}, 1, 1, api.OK},
	{"one that leads to what is reached", rows(jump(3), exit, mov, leap(-2), exit), []int{0, 1, 4}, 2, 2, api.OK},
	{"and one that leads in", rows(leap(2), jump(-1), leap(-2), exit), []int{0, 3}, 2, 1, api.OK},
	{"a loop in a second half", rows(wide, leap(-1), exit), []int{0, 2}, 2, -1, api.OK},
	{"back to a second half", rows(wide, none, leap(-2)), []int{0, 2}, 2, -1, api.OK},
}

func TestP5_3_Rows(t *testing.T) {
	for _, x := range told {
		if row, e := graph.Order(x.code); !slices.Equal(row, x.order) || e != x.e {
			t.Errorf("%s: %v, %d, not %v, %d", x.name, row, e, x.order, x.e)
		}
	}
}

func TestP5_4_Rows(t *testing.T) {
	for _, x := range told {
		if n, e := graph.Longest(x.code); n != x.longest || e != x.e {
			t.Errorf("%s: %d, %d, not %d, %d", x.name, n, e, x.longest, x.e)
		}
	}
}

func TestP5_5_Rows(t *testing.T) {
	for _, x := range told {
		if at := graph.Dead(x.code); at != x.dead {
			t.Errorf("%s: %d, not %d", x.name, at, x.dead)
		}
	}
}

// Of all rows that may be none is less: with little code each is looked at.
func TestP5_3_LeastOfAllRows(t *testing.T) {
	back := 0
	noLoop(rand.New(rand.NewSource(53)), 6000, 9, func(code []api.Insn, m model) {
		want := m.leastRow()
		row, e := graph.Order(code)
		if !slices.Equal(row, want) || e != api.OK {
			t.Fatalf("%+v: %v, %d, not %v", code, row, e, want)
		}
		if !slices.IsSorted(row) {
			back++
		}
	})
	if back < 100 {
		t.Error("too few codes lead back: ", back)
	}
}

func TestP5_3_Loops(t *testing.T) {
	chance := rand.New(rand.NewSource(54))
	count := [2]int{}
	for n := range 20000 {
		code := anyCode(chance, n%24, 1+n%5)
		if n%4 == 0 {
			code = woven(chance, n%24)
		}
		m := modelOf(code)
		row, e := graph.Order(code)
		if m.loop() {
			count[0]++
			if len(row) != 0 || e != api.ErrLoop {
				t.Fatalf("%+v: %v, %d", code, row, e)
			}
			continue
		}
		count[1]++
		if want := m.order(); !slices.Equal(row, want) || e != api.OK {
			t.Fatalf("%+v: %v, %d, not %v", code, row, e, want)
		}
	}
	if min(count[0], count[1]) < 2000 {
		t.Error("too few of some kind: ", count)
	}
}

// One instruction more that leads back makes a loop just where it leads to one that is ahead of it.
func TestP5_3_OneWayBack(t *testing.T) {
	const places = 40
	for at := range places {
		for to := range places {
			code := append(slices.Repeat(rows(mov), places), exit)
			code[at] = jump(to - at - 1)
			_, e := graph.Order(code)
			n, f := graph.Longest(code)
			if to <= at {
				if e != api.ErrLoop || f != api.ErrLoop || n != 0 {
					t.Fatal(at, to, e, n, f)
				}
			} else if e != api.OK || f != api.OK || n != places+1 {
				t.Fatal(at, to, e, n, f)
			}
		}
	}
}

func TestP5_4_LongestOfAllWays(t *testing.T) {
	count := map[int]int{}
	noLoop(rand.New(rand.NewSource(55)), 10000, 16, func(code []api.Insn, m model) {
		want := m.longest()
		if n, e := graph.Longest(code); n != want || e != api.OK {
			t.Fatalf("%+v: %d, %d, not %d", code, n, e, want)
		}
		count[want]++
	})
	for n := range 11 {
		if count[n] < 20 {
			t.Errorf("too few codes have %d as their longest: %d", n, count[n])
		}
	}
}

func TestP5_4_Loops(t *testing.T) {
	chance := rand.New(rand.NewSource(56))
	count := 0
	for n := range 12000 {
		code := anyCode(chance, n%24, 1+n%3)
		if !modelOf(code).loop() {
			continue
		}
		count++
		if n, e := graph.Longest(code); n != 0 || e != api.ErrLoop {
			t.Fatalf("%+v: %d, %d", code, n, e)
		}
	}
	if count < 2000 {
		t.Error("too few loops: ", count)
	}
}

func TestP5_5_ByTheChapter(t *testing.T) {
	chance := rand.New(rand.NewSource(57))
	count := [2]int{}
	for n := range 20000 {
		code := anyCode(chance, n%24, 1+n%12)
		want := modelOf(code).dead()
		if at := graph.Dead(code); at != want {
			t.Fatalf("%+v: %d, not %d", code, at, want)
		}
		count[min(1, want+1)]++
	}
	if min(count[0], count[1]) < 500 {
		t.Error("too few of some kind: ", count)
	}
}

// much: codes that are long, have more ways than can be counted, or have many starts that may stand at one spot of the row.
func much() map[string][]api.Insn {
	const n = 1 << 18
	zigzag := make([]api.Insn, 0, n)
	for range n / 4 { // 0, 2, 1, 3, 4, 6, 5, 7 ..
		zigzag = append(zigzag, leap(1), leap(1), leap(-2), mov)
	}
	comb := slices.Repeat(rows(jump(1<<14-1)), 1<<14)
	return map[string][]api.Insn{
		"a row":    slices.Repeat(rows(mov), n),
		"broad":    slices.Repeat(rows(wide), n),
		"diamonds": slices.Repeat(rows(jump(1), mov), n/2),
		"zigzag":   zigzag,
		"comb":     append(comb, slices.Repeat(rows(exit), 1<<14)...),
	}
}

func TestP5_3_MuchCode(t *testing.T) {
	for name, code := range much() {
		row, e := graph.Order(code)
		n, f := graph.Longest(code)
		want, long := len(code), len(code)
		switch name {
		case "broad":
			want, long = want/2, long/2
		case "comb":
			long = 1<<14 + 1
		}
		if len(row) != want || e != api.OK || n != long || f != api.OK {
			t.Errorf("%s: %d, %d, %d, %d", name, len(row), e, n, f)
		}
		for k, at := range row {
			want := k
			switch {
			case name == "broad":
				want = 2 * k
			case name == "zigzag" && k%4 == 1:
				want = k + 1
			case name == "zigzag" && k%4 == 2:
				want = k - 1
			}
			if at != want {
				t.Fatalf("%s: %d at %d", name, at, k)
			}
		}
		if at := graph.Dead(code); at != -1 {
			t.Errorf("%s: dead: %d", name, at)
		}
	}
}

// The last of much code leads back as far as it can.
func TestP5_3_MuchLoop(t *testing.T) {
	code := slices.Repeat(rows(mov), 1<<18)
	code[len(code)-1] = leap(math.MinInt16)
	row, e := graph.Order(code)
	if len(row) != 0 || e != api.ErrLoop {
		t.Error(len(row), e)
	}
	code[len(code)-1] = leap(math.MaxInt16)
	row, e = graph.Order(code)
	if len(row) != len(code) || e != api.OK {
		t.Error(len(row), e)
	}
}

// R3: code is left as it is, the room behind its end too, and no answer is another one's memory.
func TestP5_NothingIsChanged(t *testing.T) {
	chance := rand.New(rand.NewSource(58))
	for n := range 2000 {
		room := anyCode(chance, 12+n%12, 12)
		was := slices.Clone(room)
		code := room[:n%12]
		for at := -1; at <= len(code); at++ {
			graph.Next(code, at)
		}
		graph.Reached(code)
		graph.Order(code)
		graph.Longest(code)
		graph.Dead(code)
		if !slices.Equal(room, was) {
			t.Fatal(room, was)
		}
	}
}

func TestP5_NewMemory(t *testing.T) {
	code := chapters()
	for range 2 {
		next, reached := graph.Next(code, 0), graph.Reached(code)
		row, _ := graph.Order(code)
		if !slices.Equal(next, []int{1, 3}) || !slices.Equal(reached, []bool{true, true, false, true, false}) || !slices.Equal(row, []int{0, 1, 3}) {
			t.Fatal(next, reached, row)
		}
		for k := range next[:cap(next)] {
			next[:cap(next)][k] = 9
		}
		for k := range reached[:cap(reached)] {
			reached[:cap(reached)][k] = k == 2
		}
		for k := range row[:cap(row)] {
			row[:cap(row)][k] = 9
		}
	}
}

// R1, R2: whatever code is, each call ends, and answers the same again.
func TestP5_AnyCode(t *testing.T) {
	chance := rand.New(rand.NewSource(59))
	for n := range 4000 {
		var code []api.Insn
		for range n % 64 {
			i := api.Insn{Op: byte(chance.Intn(256)), Dst: byte(chance.Intn(256)), Src: byte(chance.Intn(256)), Off: int16(chance.Intn(1 << 16)), Imm: int32(chance.Uint32())}
			code = append(code, pick(chance, i, anyOne(chance)))
		}
		row, e := graph.Order(code)
		long, f := graph.Longest(code)
		reached, dead := graph.Reached(code), graph.Dead(code)
		again, g := graph.Order(slices.Clone(code))
		if !slices.Equal(row, again) || e != g || e != f || len(reached) != len(code) || dead < -1 || dead >= len(code) || long > len(row) {
			t.Fatalf("%+v: %v, %d, %d, %d, %v, %d", code, row, e, long, f, reached, dead)
		}
	}
}
