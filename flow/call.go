package flow

import (
	"stockade/api"
	"stockade/scalar"
)

// The helpers' numbers, but for delete's: it is the one that is left.
const (
	helperLookup = 1
	helperUpdate = 2
	helperTime   = 5
	helperChance = 7
)

// The registers in which the helpers on maps are handed a map, and where a key and a value lie.
const (
	mapIn     = handed
	keyAtIn   = handed + 1
	valueAtIn = handed + 2
)

// call tells what is known when a helper has answered.
func (p *point) call() (api.State, api.Errno) {
	r, e := p.helped()
	s := p.s
	s.Regs[answer] = r
	clear(s.Regs[handed : lastSpent+1])
	return s, e
}

// helped tells what is known of a helper's answer.
func (p *point) helped() (api.Reg, api.Errno) {
	switch p.i.Imm {
	case helperTime:
		return plain(scalar.All()), api.OK
	case helperChance:
		return below(4), api.OK
	}
	ref := p.s.Regs[mapIn]
	if e := mustBe(ref, api.Ref); e != api.OK {
		return api.Reg{}, e
	}
	of := p.maps[ref.Map]
	e := p.bytesAt(keyAtIn, of.Key)
	if e == api.OK && p.i.Imm == helperUpdate {
		e = p.bytesAt(valueAtIn, of.Value)
	}
	if p.i.Imm == helperLookup {
		return api.Reg{Kind: api.MaybeCell, Map: ref.Map}, e
	}
	return plain(scalar.All()), e
}

// bytesAt tells the reason of bytes that may not all hold something on the stack, from a register's address on.
func (p *point) bytesAt(reg, count int) api.Errno {
	from := p.s.Regs[reg]
	if e := mustBe(from, api.Frame); e != api.OK {
		return e
	}
	for k := range count {
		if _, e := p.fromFrame(from, int64(k), 1); e != api.OK {
			return e
		}
	}
	return api.OK
}
