package graph_test

import (
	"math"
	"math/rand"
	"slices"

	"stockade/api"
	"stockade/insn"
)

var (
	exit = api.Insn{Op: 0x95}
	mov  = api.Insn{Op: 0xb7}
	wide = api.Insn{Op: 0x18}
	ref  = api.Insn{Op: 0x18, Src: 1}
	none = api.Insn{}
)

func jump(off int) api.Insn { return api.Insn{Op: 0x15, Off: int16(off)} }
func leap(off int) api.Insn { return api.Insn{Op: 0x05, Off: int16(off)} }

func rows(c ...api.Insn) []api.Insn { return c }

func pick[T any](chance *rand.Rand, l ...T) T { return l[chance.Intn(len(l))] }

// toldStarts: the starts, rising, by the chapter's words.
func toldStarts(code []api.Insn) []int {
	var l []int
	for a := 0; a < len(code); a++ {
		l = append(l, a)
		if _, e := insn.Of(code[a]); e == api.OK && code[a].Op == 0x18 {
			a++
		}
	}
	return l
}

// toldNext: to what a place leads, by the chapter's words.
func toldNext(code []api.Insn, a int) []int {
	all := toldStarts(code)
	if !slices.Contains(all, a) {
		return nil
	}
	w, e := insn.Of(code[a])
	if e != api.OK {
		return nil
	}
	off := int(code[a].Off)
	var to []int
	switch w.Class {
	case 9:
	case 7:
		to = []int{a + 1 + off}
	case 6:
		to = []int{a + 1, a + 1 + off}
	case 10, 11:
		to = []int{a + 2}
	default:
		to = []int{a + 1}
	}
	return slices.DeleteFunc(slices.Clone(all), func(s int) bool { return !slices.Contains(to, s) })
}

// model: what the chapter says of code, found by going on till nothing changes.
type model struct {
	code   []api.Insn
	starts []int
	next   [][]int
	// behind[a][b]: some row of at least two starts, each leading to the next one, goes from a to b
	behind  [][]bool
	reached []bool
}

func modelOf(code []api.Insn) model {
	n := len(code)
	m := model{code: code, starts: toldStarts(code), next: make([][]int, n), behind: make([][]bool, n), reached: make([]bool, n)}
	for a := range code {
		m.next[a] = toldNext(code, a)
		m.behind[a] = make([]bool, n)
		for _, b := range m.next[a] {
			m.behind[a][b] = true
		}
	}
	for c := range code {
		for a := range code {
			for b := range code {
				m.behind[a][b] = m.behind[a][b] || m.behind[a][c] && m.behind[c][b]
			}
		}
	}
	for a := range code {
		m.reached[a] = a == 0 || m.behind[0][a]
	}
	return m
}

func (m model) loop() bool {
	for a := range m.code {
		if m.reached[a] && m.behind[a][a] {
			return true
		}
	}
	return false
}

func (m model) dead() int {
	for _, a := range m.starts {
		if !m.reached[a] {
			return a
		}
	}
	return -1
}

// live: the starts that are reached, rising.
func (m model) live() []int {
	return slices.DeleteFunc(slices.Clone(m.starts), func(a int) bool { return !m.reached[a] })
}

// order: of code without a loop: the least start that has all that lead to it ahead of it, again and again.
func (m model) order() []int {
	var row []int
	left := m.live()
	for len(left) > 0 {
		k := slices.IndexFunc(left, func(a int) bool {
			return !slices.ContainsFunc(left, func(b int) bool { return m.behind[b][a] })
		})
		row = append(row, left[k])
		left = slices.Delete(left, k, k+1)
	}
	return row
}

// leastRow: of code without a loop: the least of all rows that may be, each of them looked at. Of little code alone.
func (m model) leastRow() []int {
	var least []int
	all(m.live(), func(row []int) {
		for k, a := range row {
			if slices.ContainsFunc(row[:k], func(b int) bool { return m.behind[a][b] }) {
				return
			}
		}
		if least == nil || slices.Compare(row, least) < 0 {
			least = slices.Clone(row)
		}
	})
	return least
}

// all hands on every order that a list may have.
func all(l []int, f func([]int)) {
	var from func(k int)
	from = func(k int) {
		if k == len(l) {
			f(l)
			return
		}
		for j := k; j < len(l); j++ {
			l[k], l[j] = l[j], l[k]
			from(k + 1)
			l[k], l[j] = l[j], l[k]
		}
	}
	from(0)
}

// ways hands on all ways of code without a loop. Of little code alone.
func (m model) ways(f func(way []int)) {
	var on func(way []int)
	on = func(way []int) {
		f(way)
		for _, a := range m.next[way[len(way)-1]] {
			on(append(way, a))
		}
	}
	if len(m.code) > 0 {
		on([]int{0})
	}
}

// longest: of code without a loop.
func (m model) longest() int {
	n := 0
	m.ways(func(way []int) { n = max(n, len(way)) })
	return n
}

// anyOne: an instruction of any class, or one that is none.
func anyOne(chance *rand.Rand) api.Insn {
	i := api.Insn{Op: byte(chance.Intn(256)), Dst: byte(chance.Intn(12)), Src: byte(chance.Intn(12)), Off: int16(chance.Intn(9) - 4), Imm: int32(chance.Intn(12) - 2)}
	if chance.Intn(2) == 0 {
		i.Dst, i.Imm = 0, pick[int32](chance, 0, 16, -1, math.MaxInt32)
	}
	if chance.Intn(2) == 0 {
		i.Src, i.Off = pick[byte](chance, 0, 0, 1), pick[int16](chance, 0, 0, math.MaxInt16, math.MinInt16)
	}
	return i
}

// anyCode: so many places, of instructions that lead about; forward is how seldom one leads back (1: as often as not).
func anyCode(chance *rand.Rand, places, forward int) []api.Insn {
	var code []api.Insn
	for a := range places {
		to := chance.Intn(places + 1)
		if chance.Intn(forward) > 0 {
			to = a + 1 + chance.Intn(min(places-a, 6))
		}
		off := to - a - 1
		code = append(code, pick(chance, mov, mov, leap(off), jump(off), jump(off), api.Insn{Op: 0xad, Dst: 1, Src: 2, Off: int16(off)}, wide, ref, exit, anyOne(chance)))
	}
	return code
}

// woven: code of about so many places that goes through its parts in another order than that in which they lie, so that much of it leads back, but without a loop.
func woven(chance *rand.Rand, places int) []api.Insn {
	var part []int // of each place
	parts := 0
	for len(part) < places {
		part = append(part, slices.Repeat([]int{parts}, 1+chance.Intn(4))...)
		parts++
	}
	turn := chance.Perm(parts) // of each part
	for k := range turn {
		if turn[k] == 0 {
			turn[k], turn[0] = turn[0], 0
		}
	}
	later := func(a, b int) bool {
		return b < len(part) && (turn[part[a]] < turn[part[b]] || part[a] == part[b] && a < b)
	}
	var code []api.Insn
	for a := range part {
		code = append(code, wovenOne(chance, a, len(part), later))
	}
	return code
}

// wovenOne: what may stand at a place of woven code. What leads nowhere comes seldom: else little would be reached.
func wovenOne(chance *rand.Rand, a, places int, later func(a, b int) bool) api.Insn {
	var l []api.Insn
	for range 8 {
		to := chance.Intn(places)
		if !later(a, to) {
			continue
		}
		l = append(l, leap(to-a-1))
		if later(a, a+1) {
			l = append(l, jump(to-a-1), jump(to-a-1), mov)
		}
		if later(a, a+1) && later(a, a+2) {
			l = append(l, wide)
		}
	}
	if len(l) == 0 || chance.Intn(8) == 0 {
		return exit
	}
	return pick(chance, l...)
}

// noLoop hands on codes without a loop, of up to so many places, and what the chapter says of them.
func noLoop(chance *rand.Rand, count, most int, f func(code []api.Insn, m model)) {
	for count > 0 {
		code := anyCode(chance, chance.Intn(most+1), 12)
		if count%3 > 0 {
			code = woven(chance, most/2+chance.Intn(most/2-2))
		}
		if m := modelOf(code); !m.loop() {
			f(code, m)
			count--
		}
	}
}
