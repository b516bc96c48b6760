package maps_test

import (
	"bytes"
	"math"
	"math/rand"
	"slices"
	"testing"

	"stockade/api"
	"stockade/maps"
)

const (
	array = 1
	hash  = 2
	lru   = 3

	errArg    = 1
	errNil    = 2
	errNone   = 6
	errFull   = 7
	errMap    = 26
	trapBound = 42
)

var (
	kinds   = []int{array, hash, lru}
	sizes   = []int{1, 2, 4, 8}
	noSizes = []int{0, -1, 3, 5, 6, 7, 9, 10, 12, 16, 32, 64, 128, 255, 256, 257, -2, -4, -8, 1 << 32, 1<<32 + 8, math.MaxInt, math.MaxInt - 7, math.MinInt, math.MinInt + 8}
	farOffs = []int64{math.MinInt64, math.MinInt64 + 1, math.MinInt64 + 8, -1 << 32, -1 << 31, -64, 1 << 16, 1<<31 - 8, 1 << 32, 1<<32 + 8, 1 << 62, math.MaxInt64 - 64, math.MaxInt64 - 8, math.MaxInt64 - 7, math.MaxInt64 - 3, math.MaxInt64 - 1, math.MaxInt64}
	noCells = []int{0, -1, math.MinInt, math.MaxInt, 1 << 32, 1<<32 + 1, -1 << 32, 256}
)

func pick[T any](chance *rand.Rand, l ...T) T { return l[chance.Intn(len(l))] }

func anyBytes(chance *rand.Rand, count int) []byte {
	b := make([]byte, count)
	chance.Read(b)
	return b
}

// toldMap: whether a map may be, by the chapter's words.
func toldMap(m api.Map) bool {
	return slices.Contains(kinds, m.Kind) && m.Key > 0 && m.Key < 17 && (m.Kind != array || m.Key == 4) && m.Value > 0 && m.Value < 65 && m.Cap > 0 && m.Cap < 65
}

// made: a new table of a map that may be.
func made(t *testing.T, kind, key, value, capacity int) *maps.Table {
	t.Helper()
	m, e := maps.New(api.Map{Kind: kind, Key: key, Value: value, Cap: capacity})
	if m == nil || e != 0 {
		t.Fatal(kind, key, value, capacity, m, e)
	}
	return m
}

// small: a table with keys of one byte (of an array four) and values of two.
func small(t *testing.T, kind, capacity int) *maps.Table {
	t.Helper()
	if kind == array {
		return made(t, kind, 4, 2, capacity)
	}
	return made(t, kind, 1, 2, capacity)
}

// anyMap: one that may be.
func anyMap(chance *rand.Rand) api.Map {
	m := api.Map{Kind: pick(chance, kinds...), Key: pick(chance, 1, 2, 4, 16, 1+chance.Intn(16)), Value: pick(chance, 1, 2, 8, 64, 1+chance.Intn(64)), Cap: pick(chance, 1, 2, 3, 4, 8, 64, 1+chance.Intn(64))}
	if m.Kind == array {
		m.Key = 4
	}
	return m
}

// place: the key of an array's entry.
func place(n int) []byte { return []byte{byte(n), byte(n >> 8), byte(n >> 16), byte(n >> 24)} }

// all: a table's entries as one text.
func all(m *maps.Table) string {
	s := ""
	for _, x := range m.Entries() {
		s += string(x.Key) + "=" + string(x.Value) + " "
	}
	return s
}

// keys: those of a table's entries, one behind the other.
func keys(m *maps.Table) string {
	s := ""
	for _, x := range m.Entries() {
		s += string(x.Key)
	}
	return s
}

// bytesOf: a cell's bytes, loaded one by one.
func bytesOf(t *testing.T, m *maps.Table, cell int) []byte {
	t.Helper()
	b := make([]byte, m.Map().Value)
	for k := range b {
		n, e := m.Load(cell, int64(k), 1)
		if e != 0 || n > 255 {
			t.Fatal(cell, k, n, e)
		}
		b[k] = byte(n)
	}
	return b
}

func put(t *testing.T, m *maps.Table, key, value string) {
	t.Helper()
	if e := m.Update([]byte(key), []byte(value)); e != 0 {
		t.Fatalf("Update(%q, %q): %d", key, value, e)
	}
}

// finds: that Lookup of a key tells this cell (0: none).
func finds(t *testing.T, m *maps.Table, key string, cell int) {
	t.Helper()
	if got, is := m.Lookup([]byte(key)); got != cell || is != (cell != 0) {
		t.Errorf("Lookup(%q): %d, %v, not %d", key, got, is, cell)
	}
}

// model: a table by the chapter's words, with neither marks nor maps: its entries stand in the order of their last uses, its cells by their numbers, from 0 on.
type model struct {
	m     api.Map
	row   []entry
	cells [][]byte // nil: it was swept
}

type entry struct {
	key  string
	cell int
}

func toldNew(m api.Map) *model {
	t := &model{m: m, cells: [][]byte{nil}}
	if m.Kind == array {
		for n := range m.Cap {
			t.add(string(place(n)), make([]byte, m.Value))
		}
	}
	return t
}

func (t *model) add(key string, value []byte) {
	t.row = append(t.row, entry{key, len(t.cells)})
	t.cells = append(t.cells, bytes.Clone(value))
}

// where: the place of a key in the row, or -1.
func (t *model) where(key []byte) int {
	return slices.IndexFunc(t.row, func(x entry) bool { return x.key == string(key) })
}

// touch: the entry at that place is the one that was used last.
func (t *model) touch(at int) int {
	x := t.row[at]
	t.row = append(slices.Delete(t.row, at, at+1), x)
	return x.cell
}

func (t *model) lookup(key []byte) (int, bool) {
	if at := t.where(key); at >= 0 {
		return t.touch(at), true
	}
	return 0, false
}

func (t *model) update(key, value []byte) api.Errno {
	if len(key) != t.m.Key || len(value) != t.m.Value {
		return errArg
	}
	if at := t.where(key); at >= 0 {
		t.cells[t.touch(at)] = bytes.Clone(value)
		return 0
	}
	if t.m.Kind == array {
		return errNone
	}
	if len(t.row) == t.m.Cap {
		if t.m.Kind == hash {
			return errFull
		}
		t.row = t.row[1:]
	}
	t.add(string(key), value)
	return 0
}

func (t *model) remove(key []byte) api.Errno {
	if t.m.Kind == array || len(key) != t.m.Key {
		return errArg
	}
	at := t.where(key)
	if at < 0 {
		return errNone
	}
	t.row = slices.Delete(t.row, at, at+1)
	return 0
}

// part: which bytes a load or a store goes to, or what is wrong.
func (t *model) part(cell int, off int64, size int) ([]byte, api.Errno) {
	if !slices.Contains(sizes, size) {
		return nil, errArg
	}
	if cell < 1 || cell >= len(t.cells) || t.cells[cell] == nil {
		return nil, errNone
	}
	if off < 0 || off > 64 || int(off)+size > t.m.Value {
		return nil, trapBound
	}
	return t.cells[cell][off : int(off)+size], 0
}

func (t *model) load(cell int, off int64, size int) (uint64, api.Errno) {
	b, e := t.part(cell, off, size)
	sum := uint64(0)
	for k := len(b) - 1; k >= 0; k-- {
		sum = 256*sum + uint64(b[k])
	}
	return sum, e
}

func (t *model) store(cell int, off int64, size int, n uint64) api.Errno {
	b, e := t.part(cell, off, size)
	for k := range b {
		b[k] = byte(n % 256)
		n /= 256
	}
	return e
}

func (t *model) sweep() int {
	count := 0
	for cell, b := range t.cells {
		if b != nil && !slices.ContainsFunc(t.row, func(x entry) bool { return x.cell == cell }) {
			t.cells[cell] = nil
			count++
		}
	}
	return count
}

// entries: key by key, each the least of those that are left.
func (t *model) entries() []maps.Entry {
	var l []maps.Entry
	for range t.row {
		var least *entry
		for k, x := range t.row {
			if (len(l) == 0 || x.key > string(l[len(l)-1].Key)) && (least == nil || x.key < least.key) {
				least = &t.row[k]
			}
		}
		l = append(l, maps.Entry{Key: []byte(least.key), Value: bytes.Clone(t.cells[least.cell])})
	}
	return l
}

func (t *model) copy() *model {
	c := &model{m: t.m, row: slices.Clone(t.row)}
	for _, b := range t.cells {
		c.cells = append(c.cells, bytes.Clone(b))
	}
	return c
}

func sameEntries(a, b []maps.Entry) bool {
	return slices.EqualFunc(a, b, func(x, y maps.Entry) bool { return bytes.Equal(x.Key, y.Key) && bytes.Equal(x.Value, y.Value) })
}

// alike: that a table tells what the model has, with no use of an entry: its map, its entries, all its cells.
func alike(t *testing.T, m *maps.Table, want *model) {
	t.Helper()
	if m.Map() != want.m || m.Len() != len(want.row) || !sameEntries(m.Entries(), want.entries()) {
		t.Fatalf("%v, %d entries, %v, not %v, %d, %v", m.Map(), m.Len(), m.Entries(), want.m, len(want.row), want.entries())
	}
	for cell := range len(want.cells) + 2 {
		for off := range want.m.Value {
			n, e := m.Load(cell, int64(off), 1)
			if w, told := want.load(cell, int64(off), 1); n != w || e != told {
				t.Fatalf("%v: cell %d at %d: %d, %d, not %d, %d", m.Map(), cell, off, n, e, w, told)
			}
		}
	}
}

// player: does things at random to a table and to its model, and looks whether both answer the same.
type player struct {
	t      *testing.T
	chance *rand.Rand
	m      *maps.Table
	want   *model
	pool   [][]byte // keys, some of another length
	count  map[answer]int
}

// answer: that a call told an error.
type answer struct {
	call string
	e    api.Errno
}

func play(t *testing.T, chance *rand.Rand, m api.Map) *player {
	t.Helper()
	p := &player{t: t, chance: chance, m: made(t, m.Kind, m.Key, m.Value, m.Cap), want: toldNew(m), count: map[answer]int{}}
	first := anyBytes(chance, m.Key)
	for n := range m.Cap + 1 + chance.Intn(m.Cap+3) {
		key := anyBytes(chance, m.Key)
		switch {
		case m.Kind == array:
			key = place(pick(chance, n, n, n, n<<8, n<<24, n+m.Cap, n|1<<31))
		case chance.Intn(2) == 0: // but for one byte another one
			key = bytes.Clone(first)
			key[chance.Intn(m.Key)] = pick(chance, 0, 1, 127, 128, 255, byte(chance.Intn(256)))
		}
		p.pool = append(p.pool, key)
	}
	short := bytes.Clone(p.pool[0][:m.Key-1])
	p.pool = append(p.pool, short, append(bytes.Clone(p.pool[0]), 0), nil)
	return p
}

func (p *player) key() []byte { return pick(p.chance, p.pool...) }

func (p *player) value() []byte {
	if p.chance.Intn(12) == 0 {
		return anyBytes(p.chance, pick(p.chance, 0, p.want.m.Value-1, p.want.m.Value+1, 64, 65))
	}
	return anyBytes(p.chance, p.want.m.Value)
}

func (p *player) cell() int {
	if p.chance.Intn(12) == 0 {
		return pick(p.chance, noCells...)
	}
	return 1 + p.chance.Intn(len(p.want.cells)+1)
}

func (p *player) off() int64 {
	if p.chance.Intn(12) == 0 {
		return pick(p.chance, farOffs...)
	}
	return int64(p.chance.Intn(p.want.m.Value+2) - 1)
}

func (p *player) size() int {
	if p.chance.Intn(12) == 0 {
		return pick(p.chance, noSizes...)
	}
	return pick(p.chance, sizes...)
}

// step does one thing.
func (p *player) step() {
	p.t.Helper()
	switch p.chance.Intn(16) {
	case 0, 1, 2, 3, 4, 5:
		key, value := p.key(), p.value()
		e, told := p.m.Update(key, value), p.want.update(key, value)
		if e != told {
			p.t.Fatalf("%v: Update(%v, %v): %d, not %d", p.want.m, key, value, e, told)
		}
		p.count[answer{"Update", e}]++
	case 6, 7, 8, 9:
		key := p.key()
		cell, is := p.m.Lookup(key)
		if want, told := p.want.lookup(key); cell != want || is != told {
			p.t.Fatalf("%v: Lookup(%v): %d, %v, not %d, %v", p.want.m, key, cell, is, want, told)
		}
	case 10, 11:
		key := p.key()
		e, told := p.m.Delete(key), p.want.remove(key)
		if e != told {
			p.t.Fatalf("%v: Delete(%v): %d, not %d", p.want.m, key, e, told)
		}
		p.count[answer{"Delete", e}]++
	case 12, 13:
		cell, off, size := p.cell(), p.off(), p.size()
		n, e := p.m.Load(cell, off, size)
		if want, told := p.want.load(cell, off, size); n != want || e != told {
			p.t.Fatalf("%v: Load(%d, %d, %d): %d, %d, not %d, %d", p.want.m, cell, off, size, n, e, want, told)
		}
		p.count[answer{"Load", e}]++
	case 14:
		cell, off, size, x := p.cell(), p.off(), p.size(), p.chance.Uint64()
		e, told := p.m.Store(cell, off, size, x), p.want.store(cell, off, size, x)
		if e != told {
			p.t.Fatalf("%v: Store(%d, %d, %d, %d): %d, not %d", p.want.m, cell, off, size, x, e, told)
		}
		p.count[answer{"Store", e}]++
	case 15:
		if p.chance.Intn(3) == 0 {
			if n, told := p.m.Sweep(), p.want.sweep(); n != told {
				p.t.Fatalf("%v: Sweep: %d, not %d", p.want.m, n, told)
			}
		}
	}
}
