package maps_test

import (
	"bytes"
	"math"
	"math/rand"
	"slices"
	"testing"

	"stockade/api"
	"stockade/maps"
)

func TestP7_5_Rows(t *testing.T) {
	m := made(t, hash, 1, 10, 4)
	put(t, m, "a", "\x01\x02\x03\x04\x05\x06\x07\x08\x09\xff")
	put(t, m, "b", "\x00\x00\x00\x00\x00\x00\x00\x00\x00\x00")
	for k, x := range []struct {
		cell int
		off  int64
		size int
		want uint64
		e    api.Errno
	}{
		{1, 0, 1, 1, 0}, {1, 0, 2, 0x201, 0}, {1, 1, 2, 0x302, 0}, {1, 3, 4, 0x07060504, 0}, {1, 1, 8, 0x0908070605040302, 0}, {1, 2, 8, 0xff09080706050403, 0}, {1, 9, 1, 255, 0},
		{1, 10, 1, 0, trapBound}, {1, 9, 2, 0, trapBound}, {1, 7, 4, 0, trapBound}, {1, 3, 8, 0, trapBound}, {1, -1, 1, 0, trapBound}, {1, -1, 8, 0, trapBound},
		{1, math.MaxInt64, 1, 0, trapBound}, {1, math.MaxInt64 - 7, 8, 0, trapBound}, {1, math.MinInt64, 8, 0, trapBound}, {1, 1 << 32, 1, 0, trapBound},
		{2, 0, 8, 0, 0}, {3, 0, 8, 0, errNone}, {0, 0, 1, 0, errNone}, {-1, 0, 1, 0, errNone}, {3, -1, 1, 0, errNone}, {3, 100, 1, 0, errNone},
		{1, 0, 0, 0, errArg}, {1, 0, 3, 0, errArg}, {1, 0, -1, 0, errArg}, {1, 0, 16, 0, errArg}, {1, 0, 1<<32 + 1, 0, errArg},
		{1, -1, 3, 0, errArg}, {3, 0, 3, 0, errArg}, {0, -1, 5, 0, errArg}, {-1, math.MaxInt64, math.MaxInt, 0, errArg},
	} {
		if n, e := m.Load(x.cell, x.off, x.size); n != x.want || e != x.e {
			t.Errorf("row %d: Load(%d, %d, %d): %d, %d, not %d, %d", k, x.cell, x.off, x.size, n, e, x.want, x.e)
		}
		before := all(m)
		if e := m.Store(x.cell, x.off, x.size, x.want); e != x.e || all(m) != before {
			t.Errorf("row %d: Store(%d, %d, %d): %d, not %d; %q", k, x.cell, x.off, x.size, e, x.e, all(m))
		}
	}
}

func TestP7_5_StoreRows(t *testing.T) {
	for k, x := range []struct {
		off  int64
		size int
		n    uint64
		want string
	}{
		{0, 1, 'x', "xbcdefghij"}, {9, 1, 'x', "abcdefghix"}, {0, 2, 'x' + 256*'y', "xycdefghij"}, {3, 2, 0x7978, "abcxyfghij"}, {1, 4, 0x74737271, "aqrstfghij"},
		{2, 8, 0x3837363534333231, "ab12345678"}, {0, 8, 0x3837363534333231, "12345678ij"}, {6, 4, 0, "abcdef\x00\x00\x00\x00"},
		{4, 1, 0xfffffff00 | 'x', "abcdxfghij"}, {4, 2, math.MaxUint64, "abcd\xff\xffghij"},
	} {
		m := made(t, lru, 1, 10, 4)
		put(t, m, "a", "abcdefghij")
		put(t, m, "b", "abcdefghij")
		if e := m.Store(1, x.off, x.size, x.n); e != 0 || all(m) != "a="+x.want+" b=abcdefghij " {
			t.Errorf("row %d: %d, %q", k, e, all(m))
		}
	}
}

func TestP7_5_ByTheChapter(t *testing.T) {
	chance := rand.New(rand.NewSource(75))
	count := map[api.Errno]int{}
	for value := 1; value <= 64; value++ {
		m := api.Map{Kind: pick(chance, kinds...), Key: 4, Value: value, Cap: 2}
		p := play(t, chance, m)
		for len(p.want.cells) < 3 || p.m.Len() < 2 {
			p.step()
		}
		offs := slices.Clone(farOffs)
		for off := int64(-9); off < int64(value)+10; off++ {
			offs = append(offs, off)
		}
		for _, off := range offs {
			for _, size := range append(slices.Clone(sizes), pick(chance, noSizes...)) {
				for _, cell := range []int{1, 2, len(p.want.cells) - 1, len(p.want.cells), pick(chance, noCells...)} {
					x := chance.Uint64()
					e, told := p.m.Store(cell, off, size, x), p.want.store(cell, off, size, x)
					n, f := p.m.Load(cell, off, size)
					want, toldLoad := p.want.load(cell, off, size)
					if e != told || n != want || f != toldLoad {
						t.Fatalf("%v: Store(%d, %d, %d, %d): %d, not %d; then %d, %d, not %d, %d", m, cell, off, size, x, e, told, n, f, want, toldLoad)
					}
					count[e]++
				}
			}
		}
		alike(t, p.m, p.want)
	}
	for _, e := range []api.Errno{0, errArg, errNone, trapBound} {
		if count[e] < 1000 {
			t.Errorf("%d was told %d times alone", e, count[e])
		}
	}
}

// A cell whose entry has gone is loaded from and stored to, till it is swept.
func TestP7_5_CellsThatNoEntryHas(t *testing.T) {
	for _, kind := range []int{hash, lru} {
		m := small(t, kind, 1)
		put(t, m, "a", "xy")
		if kind == hash {
			m.Delete([]byte("a"))
		}
		put(t, m, "b", "zu")
		if got := bytesOf(t, m, 1); string(got) != "xy" {
			t.Error(kind, got)
		}
		if e := m.Store(1, 1, 1, 'Y'); e != 0 || string(bytesOf(t, m, 1)) != "xY" || all(m) != "b=zu " {
			t.Error(kind, e, all(m))
		}
		if e := m.Store(1, 1, 2, 'Y'); e != trapBound {
			t.Error(kind, e)
		}
		if n := m.Sweep(); n != 1 {
			t.Error(kind, n)
		}
		if e := m.Store(1, 0, 1, 'Y'); e != errNone {
			t.Error(kind, e)
		}
		if _, e := m.Load(1, 5, 1); e != errNone {
			t.Error(kind, e)
		}
		if got := bytesOf(t, m, 2); string(got) != "zu" {
			t.Error(kind, got)
		}
	}
}

func TestP7_6_Sweep(t *testing.T) {
	m := small(t, hash, 4)
	for _, key := range []string{"a", "b", "c", "d"} {
		put(t, m, key, key+key)
	}
	if n := m.Sweep(); n != 0 {
		t.Error(n)
	}
	for _, key := range []string{"a", "c", "d"} {
		m.Delete([]byte(key))
	}
	put(t, m, "c", "xx")
	if n := m.Sweep(); n != 3 {
		t.Error(n)
	}
	if n := m.Sweep(); n != 0 {
		t.Error(n)
	}
	for cell, there := range []bool{false, false, true, false, false, true, false} {
		if _, e := m.Load(cell, 0, 1); (e == 0) != there || e != 0 && e != errNone {
			t.Error(cell, e)
		}
	}
	if all(m) != "b=bb c=xx " {
		t.Error(all(m))
	}
	m.Delete([]byte("b"))
	m.Delete([]byte("c"))
	if n := m.Sweep(); n != 2 || m.Len() != 0 {
		t.Error(n, m.Len())
	}
	put(t, m, "a", "yy") // the numbers go on
	finds(t, m, "a", 6)
}

func TestP7_6_SweepForgotten(t *testing.T) {
	m := small(t, lru, 2)
	for n := range 100 {
		put(t, m, string([]byte{byte('A' + n%50)}), "xy")
	}
	if n := m.Sweep(); n != 98 || m.Len() != 2 {
		t.Error(n, m.Len())
	}
	for cell := range 102 {
		if _, e := m.Load(cell, 0, 1); (e == 0) != (cell == 99 || cell == 100) {
			t.Error(cell, e)
		}
	}
	a := small(t, array, 64)
	if n := a.Sweep(); n != 0 {
		t.Error(n)
	}
	alike(t, a, toldNew(a.Map()))
}

func TestP7_6_ByTheChapter(t *testing.T) {
	chance := rand.New(rand.NewSource(76))
	swept := 0
	for range 100 {
		p := play(t, chance, anyMap(chance))
		for range 10 {
			for range chance.Intn(60) {
				p.step()
			}
			n := p.m.Sweep()
			if told := p.want.sweep(); n != told {
				t.Fatalf("%v: %d, not %d", p.want.m, n, told)
			}
			swept += n
			alike(t, p.m, p.want)
		}
	}
	if swept < 1000 {
		t.Error("too few are swept: ", swept)
	}
}

// Keys rise byte by byte: the first byte that differs tells, and 255 is the greatest.
func TestP7_7_Entries(t *testing.T) {
	rising := []string{"\x00\x00\x00", "\x00\x00\x01", "\x00\x00\xff", "\x00\x01\x00", "\x00\xff\x00", "\x01\x00\x00", "\x01\x00\x80", "\x7f\xff\xff", "\x80\x00\x00", "\xc3\xa4\x00", "\xff\x00\x00", "\xff\xff\xfe", "\xff\xff\xff"}
	chance := rand.New(rand.NewSource(77))
	for range 50 {
		m := made(t, pick(chance, hash, lru), 3, 2, len(rising))
		var want []maps.Entry
		for _, n := range chance.Perm(len(rising)) {
			put(t, m, rising[n], string([]byte{byte(n), 7}))
		}
		for n, key := range rising {
			want = append(want, maps.Entry{Key: []byte(key), Value: []byte{byte(n), 7}})
		}
		if m.Len() != len(rising) || !sameEntries(m.Entries(), want) {
			t.Fatal(m.Len(), m.Entries())
		}
	}
}

func TestP7_7_EntriesOfAnArray(t *testing.T) {
	for capacity := 1; capacity <= 64; capacity++ {
		m := made(t, array, 4, 1, capacity)
		for n := capacity - 1; n >= 0; n-- {
			put(t, m, string(place(n)), string([]byte{byte(n + 1)}))
		}
		l := m.Entries()
		if len(l) != capacity || m.Len() != capacity {
			t.Fatal(capacity, len(l))
		}
		for n, x := range l {
			if !bytes.Equal(x.Key, place(n)) || !bytes.Equal(x.Value, []byte{byte(n + 1)}) {
				t.Fatal(capacity, n, x)
			}
		}
	}
}

// R3: what Entries hands out is new memory: neither a later answer nor another list shows what is written there, not even behind a list's end.
func TestP7_7_NewMemory(t *testing.T) {
	for _, kind := range kinds {
		m := made(t, kind, 4, 2, 3)
		for n := range 3 {
			put(t, m, string(place(n)), string([]byte{'x', byte('0' + n)}))
		}
		was, l := all(m), m.Entries()
		var lists, want [][]byte
		for _, x := range l {
			lists = append(lists, x.Key, x.Value)
			want = append(want, bytes.Clone(x.Key), bytes.Clone(x.Value))
		}
		for k, b := range lists {
			if !bytes.Equal(b, want[k]) {
				t.Fatal(kind, k, b, want[k])
			}
			b = b[:cap(b)]
			for j := range b {
				b[j] ^= 255
			}
			if all(m) != was {
				t.Fatal(kind, k, all(m))
			}
		}
		clear(l[:cap(l)])
		if all(m) != was || string(bytesOf(t, m, 1)) != "x0" {
			t.Error(kind, all(m))
		}
		finds(t, m, string(place(2)), 3)
	}
}

func TestP7_7_EntriesAsTheyWere(t *testing.T) {
	for _, kind := range kinds {
		m := made(t, kind, 4, 2, 2)
		put(t, m, string(place(0)), "x0")
		put(t, m, string(place(1)), "x1")
		before := m.Entries()
		m.Store(1, 0, 1, 'y')
		put(t, m, string(place(1)), "zz")
		if len(before) != 2 || string(before[0].Value) != "x0" || string(before[1].Value) != "x1" {
			t.Error(kind, "an answer hangs on what is done later: ", before)
		}
	}
}

// A copy is used likewise, has the cells that no entry has, and goes on with the same numbers.
func TestP7_7_CopyHasTheSame(t *testing.T) {
	m := small(t, lru, 2)
	put(t, m, "a", "11")
	put(t, m, "b", "22")
	put(t, m, "c", "33")
	m.Lookup([]byte("b"))
	c := m.Copy()
	if c == m || !maps.Same(c, m) || c.Map() != m.Map() || string(bytesOf(t, c, 1)) != "11" {
		t.Error(c.Map(), c.Entries())
	}
	put(t, c, "d", "44")
	if keys(c) != "bd" || keys(m) != "bc" {
		t.Error(keys(c), keys(m))
	}
	finds(t, c, "d", 4)
	if n := c.Sweep(); n != 2 || string(bytesOf(t, m, 1)) != "11" || string(bytesOf(t, m, 3)) != "33" {
		t.Error(n)
	}
	put(t, m, "e", "55")
	finds(t, m, "e", 4)
	if keys(m) != "be" || keys(c) != "bd" || string(bytesOf(t, m, 4)) != "55" || string(bytesOf(t, c, 4)) != "44" {
		t.Error(keys(m), keys(c))
	}
}

// Whatever was done, a copy and its table tell the same of the same, and nothing of what is done to the other.
func TestP7_7_CopyByTheChapter(t *testing.T) {
	chance := rand.New(rand.NewSource(771))
	for range 150 {
		p := play(t, chance, anyMap(chance))
		for range chance.Intn(200) {
			p.step()
		}
		q := *p
		q.m, q.want = p.m.Copy(), p.want.copy()
		alike(t, q.m, q.want)
		if !maps.Same(p.m, q.m) {
			t.Fatal(p.m.Entries(), q.m.Entries())
		}
		for range 60 {
			p.step()
		}
		alike(t, q.m, q.want)
		for range 60 {
			q.step()
		}
		alike(t, p.m, p.want)
		for range 60 {
			pick(chance, p, &q).step()
		}
		alike(t, p.m, p.want)
		alike(t, q.m, q.want)
		if maps.Same(p.m, q.m) != sameEntries(p.want.entries(), q.want.entries()) {
			t.Fatal(p.m.Entries(), q.m.Entries())
		}
	}
}

func TestP7_7_SameRows(t *testing.T) {
	with := func(m api.Map, pairs ...string) *maps.Table {
		l := made(t, m.Kind, m.Key, m.Value, m.Cap)
		for k := 0; k < len(pairs); k += 2 {
			put(t, l, pairs[k], pairs[k+1])
		}
		return l
	}
	plain := api.Map{Kind: hash, Key: 1, Value: 2, Cap: 4}
	other := func(f func(m *api.Map)) api.Map {
		m := plain
		f(&m)
		return m
	}
	gone := with(plain, "a", "xy", "b", "zu", "c", "uv")
	gone.Delete([]byte("c"))
	stored := with(plain, "a", "xy", "b", "zU")
	stored.Store(2, 1, 1, 'u')
	ab := with(plain, "a", "xy", "b", "zu")
	for n, x := range []struct {
		a, b *maps.Table
		same bool
	}{
		{ab, ab, true}, {ab, with(plain, "a", "xy", "b", "zu"), true}, {ab, with(plain, "b", "zu", "a", "xy"), true}, {ab, with(plain, "b", "zu", "a", "11", "a", "xy"), true},
		{ab, gone, true}, {ab, stored, true}, {ab, ab.Copy(), true}, {with(plain), with(plain), true},
		{ab, with(plain, "a", "xy", "b", "zv"), false}, {ab, with(plain, "a", "xy", "b", "yu"), false}, {ab, with(plain, "a", "xy", "c", "zu"), false}, {ab, with(plain, "a", "xy"), false}, {ab, with(plain), false},
		{ab, with(plain, "a", "zu", "b", "xy"), false}, {ab, with(plain, "a", "xy", "b", "zu", "c", "uv"), false}, {ab, with(plain, "b", "zu"), false},
		{with(plain), with(other(func(m *api.Map) { m.Kind = lru })), false}, {with(plain), with(other(func(m *api.Map) { m.Key = 2 })), false},
		{with(plain), with(other(func(m *api.Map) { m.Value = 3 })), false}, {with(plain), with(other(func(m *api.Map) { m.Cap = 5 })), false},
		{ab, with(other(func(m *api.Map) { m.Kind = lru }), "a", "xy", "b", "zu"), false}, {ab, with(other(func(m *api.Map) { m.Cap = 64 }), "a", "xy", "b", "zu"), false},
		{nil, nil, true}, {nil, new(maps.Table), true}, {new(maps.Table), new(maps.Table), true}, {nil, ab, false}, {nil, with(plain), false}, {new(maps.Table), ab, false}, {new(maps.Table), with(plain), false},
	} {
		if maps.Same(x.a, x.b) != x.same || maps.Same(x.b, x.a) != x.same {
			t.Error(n, maps.Same(x.a, x.b), maps.Same(x.b, x.a))
		}
	}
}

// Every field and every byte is looked at.
func TestP7_7_SameByte(t *testing.T) {
	chance := rand.New(rand.NewSource(772))
	for range 200 {
		p := play(t, chance, anyMap(chance))
		for p.m.Len() == 0 {
			p.step()
		}
		c := p.m.Copy()
		l := p.m.Entries()
		x := l[chance.Intn(len(l))]
		x.Value[chance.Intn(len(x.Value))] ^= 1 << chance.Intn(8)
		if e := c.Update(x.Key, x.Value); e != 0 || maps.Same(p.m, c) || maps.Same(c, p.m) {
			t.Fatal(e, p.m.Entries(), c.Entries())
		}
	}
}
