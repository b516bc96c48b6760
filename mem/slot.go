package mem

import "stockade/api"

const (
	slotSize = 8
	all      = 255 // the Have of a slot all of whose bytes hold something
)

// right answers whether a slot is one that a frame may have.
func (s Slot) right() bool {
	if s.holdsAddress() {
		return May(s.V) && isAddress(s.V) && s == Slot{Have: all, V: s.V}
	}
	for j, b := range s.B {
		if b != 0 && s.Have>>j&1 == 0 {
			return false
		}
	}
	return true
}

// holdsAddress answers of a slot that may be: where it holds bytes, V is the zero value.
func (s Slot) holdsAddress() bool { return s.V != (api.Value{}) }

// isAddress answers of a value that may be.
func isAddress(v api.Value) bool { return v.Kind != api.None && v.Kind != api.Num }

// load tells what lies in a slot, from one of its bytes on.
func (s Slot) load(from int64, size int) (api.Value, api.Errno) {
	bits := bitsOf(from, size)
	switch {
	case s.holdsAddress() && size != slotSize:
		return api.Value{}, api.TrapKind
	case s.holdsAddress():
		return s.V, api.OK
	case s.Have&bits != bits:
		return api.Value{}, api.TrapEmpty
	}
	n, e := Get(s.B[:], from, size)
	return api.Value{Kind: api.Num, N: n}, e
}

// store makes the slot in which a value lies from one of its bytes on.
func (s Slot) store(from int64, size int, v api.Value) (Slot, api.Errno) {
	switch {
	case isAddress(v) && size != slotSize:
		return Slot{}, api.TrapKind
	case isAddress(v):
		return Slot{Have: all, V: v}, api.OK
	}
	if s.holdsAddress() { // of which no byte can stay
		s = Slot{}
	}
	p, e := part(s.B[:], from, size)
	lay(p, v.N)
	s.Have |= bitsOf(from, size)
	return s, e
}

// bitsOf tells the bits of Have that speak of some bytes of a slot.
func bitsOf(from int64, size int) byte { return byte((1<<size - 1) << from) }
