package vm

import (
	"stockade/api"
	"stockade/mem"
)

// The helpers' numbers, but for lookup's: it is the one that is left.
const (
	helperUpdate = 2
	helperDelete = 3
	helperTime   = 5
	helperChance = 7
)

// The registers in which the helpers on maps are handed a map, and where a key and a value lie.
const (
	mapIn     = handed
	keyAtIn   = handed + 1
	valueAtIn = handed + 2
)

// call has a helper answer.
func (m *Machine) call(helper int32) api.Errno {
	v, e := m.helped(helper)
	if e != api.OK {
		return e
	}
	m.regs[answer] = v
	clear(m.regs[handed : lastSpent+1])
	return api.OK
}

// helped tells a helper's answer.
func (m *Machine) helped(helper int32) (api.Value, api.Errno) {
	switch helper {
	case helperTime:
		return num(first(&m.world.Times)), api.OK
	case helperChance:
		return num(uint64(first(&m.world.Chances))), api.OK
	}
	return m.helpedOnMap(helper)
}

// first takes the first one off a list, or 0, if there is none.
func first[N uint32 | uint64](l *[]N) N {
	if len(*l) == 0 {
		return 0
	}
	n := (*l)[0]
	*l = (*l)[1:]
	return n
}

func (m *Machine) helpedOnMap(helper int32) (api.Value, api.Errno) {
	ref := m.regs[mapIn]
	if e := mustBe(ref, api.Ref); e != api.OK {
		return api.Value{}, e
	}
	t := m.tables[ref.Map]
	key, e := m.bytesAt(m.regs[keyAtIn], t.Map().Key)
	var value []byte
	if e == api.OK && helper == helperUpdate {
		value, e = m.bytesAt(m.regs[valueAtIn], t.Map().Value)
	}
	switch {
	case e != api.OK:
		return api.Value{}, e
	case helper == helperUpdate:
		return told(t.Update(key, value)), api.OK
	case helper == helperDelete:
		return told(t.Delete(key)), api.OK
	}
	cell, is := t.Lookup(key)
	if !is {
		return num(0), api.OK
	}
	return api.Value{Kind: api.Cell, Map: ref.Map, N: uint64(cell)}, api.OK
}

// told makes a number of an error: 0 of none, else what it lacks of 2^64.
func told(e api.Errno) api.Value { return num(-uint64(e)) }

// bytesAt tells so many bytes of the stack, from an address on.
func (m *Machine) bytesAt(from api.Value, count int) ([]byte, api.Errno) {
	if e := mustBe(from, api.Frame); e != api.OK {
		return nil, e
	}
	b := make([]byte, count)
	for k := range count {
		v, e := mem.Load(m.frame, from.Off+int64(k), 1)
		if e != api.OK {
			return nil, e
		}
		b[k] = byte(v.N)
	}
	return b, api.OK
}
