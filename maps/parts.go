package maps

import (
	"stockade/api"
	"stockade/mem"
)

// arrayKey is how many bytes an array's key has: it is a number of 32 bits.
const arrayKey = 4

// holder is what an entry has: its cell, and how many uses of entries there were when it was used last, that one among them.
type holder struct{ cell, used int }

// mayBe answers whether a map may be.
func mayBe(m api.Map) bool {
	switch m.Kind {
	case api.MapArray:
		if m.Key != arrayKey {
			return false
		}
	case api.MapHash, api.MapLru:
	default:
		return false
	}
	return upTo(m.Key, api.MaxKey) && upTo(m.Value, api.MaxValue) && upTo(m.Cap, api.MaxCap)
}

func upTo(n, most int) bool { return n >= 1 && n <= most }

// own hands out bytes in new memory.
func own(b []byte) []byte {
	c := make([]byte, len(b))
	copy(c, b)
	return c
}

// made answers whether a call made the table.
func (t *Table) made() bool { return t != nil && t.cells != nil }

// fill makes all entries of an array, the numbers rising, all noughts.
func (t *Table) fill() {
	zero := make([]byte, t.m.Value)
	for n := range t.m.Cap {
		key, _ := mem.Put(make([]byte, arrayKey), 0, arrayKey, uint64(n)) // no error: the key has just these bytes
		t.add(string(key), zero)
	}
}

// add makes an entry of a key that has none, with a new cell.
func (t *Table) add(key string, value []byte) {
	t.last++
	t.cells[t.last] = own(value)
	t.use(key, t.last)
}

// use puts down that the entry of a key, which has that cell, is used now.
func (t *Table) use(key string, cell int) {
	t.uses++
	t.entries[key] = holder{cell: cell, used: t.uses}
}

// makeRoom sees to it that one more entry may be made, or tells why none may.
func (t *Table) makeRoom() api.Errno {
	switch {
	case t.m.Kind == api.MapArray:
		return api.ErrNone
	case len(t.entries) < t.m.Cap:
		return api.OK
	case t.m.Kind == api.MapHash:
		return api.ErrFull
	}
	delete(t.entries, t.oldest())
	return api.OK
}

// oldest tells the key that was used longest ago; no two were at once, so the order in which a map is gone through does not show.
func (t *Table) oldest() string {
	oldest, least := "", t.uses+1
	for key, h := range t.entries {
		if h.used < least {
			oldest, least = key, h.used
		}
	}
	return oldest
}

// bytesOf hands out a cell's own bytes; a size that is none is told ahead of a cell that is not there.
func (t *Table) bytesOf(cell, size int) ([]byte, api.Errno) {
	if !t.made() {
		return nil, api.ErrNil
	}
	b, there := t.cells[cell]
	switch {
	case size != 1 && size != 2 && size != 4 && size != 8:
		return nil, api.ErrArg
	case !there:
		return nil, api.ErrNone
	}
	return b, api.OK
}
