package graph

import (
	"container/heap"
	"slices"
	"sort"

	"stockade/api"
	"stockade/insn"
)

// starts tells of each place whether it is a start.
func starts(code []api.Insn) []bool {
	is := make([]bool, len(code))
	for at := range len(code) {
		is[at] = at == 0 || !is[at-1] || !broad(code[at-1])
	}
	return is
}

// begins answers whether one place is a start, with no look at all of the code: behind what is not broad there is one, whether that is a start itself or a second half; of the broad ones behind that each second one is a second half.
func begins(code []api.Insn, at int) bool {
	ahead := 0
	for ahead < at && broad(code[at-1-ahead]) {
		ahead++
	}
	return ahead%2 == 0
}

// broad answers whether an instruction has two places.
func broad(i api.Insn) bool { return insn.Places(i) == 2 }

// leads tells to what a start leads; is answers of a place whether it is a start.
func leads(code []api.Insn, at int, is func(int) bool) []int {
	var l []int
	add := func(to int) {
		if to >= 0 && to < len(code) && is(to) {
			l = append(l, to)
		}
	}
	i := code[at]
	w, e := insn.Of(i)
	switch {
	case e != api.OK || w.Class == insn.Exit: // nowhere
	case w.Class == insn.Goto:
		add(target(at, i))
	case w.Class == insn.Jump:
		add(at + 1)
		add(target(at, i))
	default:
		add(at + insn.Places(i))
	}
	slices.Sort(l)
	return slices.Compact(l)
}

func target(at int, i api.Insn) int { return at + 1 + int(i.Off) }

// paths is what a walk from place 0 on finds: which places are reached, these one by one, and to what each of them leads.
type paths struct {
	reached []bool
	found   []int
	to      [][]int
}

// walk keeps what it has yet to look at in a list, for code may be longer than calls can be deep.
func walk(code []api.Insn) paths {
	is := starts(code)
	p := paths{reached: make([]bool, len(code)), to: make([][]int, len(code))}
	takeDown := func(at int) {
		if !p.reached[at] {
			p.reached[at] = true
			p.found = append(p.found, at)
		}
	}
	if len(code) > 0 {
		takeDown(0)
	}
	for k := 0; k < len(p.found); k++ {
		at := p.found[k]
		p.to[at] = leads(code, at, func(place int) bool { return is[place] })
		for _, to := range p.to[at] {
			takeDown(to)
		}
	}
	return p
}

// order tells the least row in which each start that is reached stands ahead of all to which it leads.
func (p paths) order() ([]int, api.Errno) {
	waits := p.waits()
	ready := &least{}
	for _, at := range p.found {
		if waits[at] == 0 {
			heap.Push(ready, at)
		}
	}
	row := make([]int, 0, len(p.found))
laying:
	for {
		switch {
		case ready.Len() > 0:
			at := ready.take()
			row = append(row, at)
			for _, to := range p.to[at] {
				waits[to]--
				if waits[to] == 0 {
					heap.Push(ready, to)
				}
			}
		case len(row) < len(p.found): // those that are left wait for one another
			return nil, api.ErrLoop
		default:
			break laying
		}
	}
	return row, api.OK
}

// waits tells for how many starts that are reached each place has to wait: all that lead to it.
func (p paths) waits() []int {
	n := make([]int, len(p.to))
	for _, at := range p.found {
		for _, to := range p.to[at] {
			n[to]++
		}
	}
	return n
}

// least is a heap of places, the least one first.
type least struct{ sort.IntSlice }

// Push: of heap.Interface.
func (l *least) Push(x any) { l.IntSlice = append(l.IntSlice, x.(int)) }

// Pop: of heap.Interface.
func (l *least) Pop() any {
	last := len(l.IntSlice) - 1
	x := l.IntSlice[last]
	l.IntSlice = l.IntSlice[:last]
	return x
}

func (l *least) take() int { return heap.Pop(l).(int) }
