package maps_test

import (
	"bytes"
	"math"
	"math/rand"
	"testing"

	"stockade/api"
	"stockade/maps"
)

func TestP7_1_WhichMapsMayBe(t *testing.T) {
	may := 0
	around := func(most int) []int {
		return []int{0, -1, -2, math.MinInt, math.MaxInt, 1 << 32, 1<<32 + 4, 1<<32 + 1, 1 << 31, 1, 2, 3, 4, 5, 8, most - 1, most, most + 1, 2 * most, 255, 256, 257, 260}
	}
	for _, kind := range []int{0, 1, 2, 3, 4, 5, 6, 7, -1, -2, -3, 255, 257, 258, 259, 1<<32 + 1, 1<<32 + 2, math.MaxInt, math.MinInt} {
		for _, key := range around(16) {
			for _, value := range around(64) {
				for _, capacity := range around(64) {
					m := api.Map{Kind: kind, Key: key, Value: value, Cap: capacity}
					got, e := maps.New(m)
					if is := toldMap(m); is != (e == 0) || is != (got != nil) || !is && e != errMap {
						t.Fatal(m, got, e)
					}
					if toldMap(m) {
						may++
					}
					if got.Map() != m && e == 0 {
						t.Fatal(m, got.Map())
					}
				}
			}
		}
	}
	if want := (1 + 2*8) * 8 * 8; may != want {
		t.Errorf("%d maps that may be, not %d", may, want)
	}
}

func TestP7_1_EachMapThatMayBe(t *testing.T) {
	for _, kind := range kinds {
		for key := 1; key <= 16; key++ {
			for value := 1; value <= 64; value++ {
				for _, capacity := range []int{1, 2, 63, 64} {
					m := api.Map{Kind: kind, Key: key, Value: value, Cap: capacity}
					got, e := maps.New(m)
					if toldMap(m) != (e == 0) || got.Map() != m && e == 0 {
						t.Fatal(m, got.Map(), e)
					}
				}
			}
		}
	}
}

func TestP7_1_NewTable(t *testing.T) {
	for capacity := 1; capacity <= 64; capacity++ {
		for _, value := range []int{1, 2, 7, 8, 64} {
			for _, m := range []api.Map{{Kind: array, Key: 4, Value: value, Cap: capacity}, {Kind: hash, Key: 4, Value: value, Cap: capacity}, {Kind: lru, Key: 16, Value: value, Cap: capacity}} {
				alike(t, made(t, m.Kind, m.Key, m.Value, m.Cap), toldNew(m))
			}
		}
	}
}

func TestP7_1_NewArray(t *testing.T) {
	m := made(t, array, 4, 3, 64)
	for n := range 64 {
		finds(t, m, string([]byte{byte(n), 0, 0, 0}), n+1)
		if b := bytesOf(t, m, n+1); !bytes.Equal(b, []byte{0, 0, 0}) {
			t.Error(n, b)
		}
	}
	finds(t, m, string([]byte{64, 0, 0, 0}), 0)
	if m.Len() != 64 || m.Sweep() != 0 {
		t.Error(m.Len())
	}
	if _, e := m.Load(65, 0, 1); e != errNone {
		t.Error(e)
	}
}

// The first cell of a map that is no array has the number 1.
func TestP7_1_NewOthers(t *testing.T) {
	for _, kind := range []int{hash, lru} {
		m := small(t, kind, 3)
		if m.Len() != 0 || len(m.Entries()) != 0 || m.Sweep() != 0 {
			t.Error(kind, m.Len(), m.Entries())
		}
		if _, e := m.Load(1, 0, 1); e != errNone {
			t.Error(kind, e)
		}
		put(t, m, "a", "xy")
		finds(t, m, "a", 1)
	}
}

// Two tables of one map live apart.
func TestP7_1_Apart(t *testing.T) {
	for _, kind := range kinds {
		a, b := made(t, kind, 4, 2, 4), made(t, kind, 4, 2, 4)
		put(t, a, "\x01\x00\x00\x00", "xy")
		alike(t, b, toldNew(b.Map()))
	}
}

func TestP7_2_Lookup(t *testing.T) {
	for _, kind := range []int{hash, lru} {
		m := made(t, kind, 2, 2, 4)
		put(t, m, "ab", "11")
		put(t, m, "a\x00", "22")
		put(t, m, "\x00\x00", "33")
		finds(t, m, "ab", 1)
		finds(t, m, "a\x00", 2)
		finds(t, m, "\x00\x00", 3)
		for _, key := range []string{"", "a", "b", "\x00", "aba", "ab\x00", "a\x00\x00", "\x00\x00\x00", "ba", "aB", "\x00a", "abab"} {
			finds(t, m, key, 0)
		}
		put(t, m, "ab", "44") // as it is there, its cell stays
		finds(t, m, "ab", 1)
		if e := m.Delete([]byte("ab")); e != 0 {
			t.Error(e)
		}
		finds(t, m, "ab", 0)
		put(t, m, "ab", "55")
		finds(t, m, "ab", 4)
		finds(t, m, "a\x00", 2)
	}
}

func TestP7_2_LookupOfAnArray(t *testing.T) {
	m := small(t, array, 3)
	for n := range 3 {
		finds(t, m, string(place(n)), n+1)
	}
	for _, key := range []string{"", "\x00", "\x01", "\x00\x00\x00", "\x00\x00\x00\x00\x00", "\x03\x00\x00\x00", "\x00\x00\x00\x01", "\x00\x01\x00\x00", "\x00\x00\x01\x00", "\xff\xff\xff\xff", "\x01\x00\x00\x80", "\x01\x00\x00\x00\x00\x00\x00\x00"} {
		finds(t, m, key, 0)
	}
}

// A key with other bytes behind its end is the key up to there.
func TestP7_2_KeysWithRoom(t *testing.T) {
	m := small(t, hash, 4)
	room := []byte("abcd")
	if e := m.Update(room[:1], room[2:]); e != 0 || string(room) != "abcd" {
		t.Error(e, room)
	}
	if c, is := m.Lookup(room[:1:1]); c != 1 || !is {
		t.Error(c, is)
	}
	if c, is := m.Lookup(room[1:2]); c != 0 || is {
		t.Error(c, is)
	}
	if all(m) != "a=cd " {
		t.Error(all(m))
	}
}

func TestP7_3_UpdateErrors(t *testing.T) {
	for _, kind := range kinds {
		m := made(t, kind, 4, 3, 1)
		zero := string(place(0))
		put(t, m, zero, "xyz")
		want := all(m)
		for _, x := range []struct{ key, value string }{
			{"", ""}, {"", "abc"}, {"\x00\x00\x00", "abc"}, {"\x00\x00\x00\x00\x00", "abc"}, {zero, ""}, {zero, "ab"}, {zero, "abcd"},
			{"abcd", "ab"}, {"abcd", "abcd"}, {"abc", "abc"}, {"abcde", "abc"}, {"abc", "abcd"}, {"\x00\x00\x00\x00\x00\x00\x00\x00", "abc"},
		} {
			if e := m.Update([]byte(x.key), []byte(x.value)); e != errArg || all(m) != want {
				t.Errorf("kind %d: Update(%q, %q): %d, %q", kind, x.key, x.value, e, all(m))
			}
		}
		if e := m.Update(nil, nil); e != errArg {
			t.Error(kind, e)
		}
		e := m.Update([]byte("abcd"), []byte("abc"))
		switch kind {
		case array:
			if e != errNone || all(m) != want {
				t.Error(e, all(m))
			}
		case hash:
			if e != errFull || all(m) != want {
				t.Error(e, all(m))
			}
		case lru:
			if e != 0 || all(m) != "abcd=abc " {
				t.Error(e, all(m))
			}
		}
	}
}

// What is there gets the value in the cell that it has, whether there is room or not.
func TestP7_3_UpdateOfWhatIsThere(t *testing.T) {
	for _, kind := range kinds {
		for _, capacity := range []int{2, 3} {
			m := made(t, kind, 4, 2, capacity)
			a, b := string(place(0)), string(place(1))
			put(t, m, a, "xx")
			put(t, m, b, "yy")
			put(t, m, a, "zu")
			finds(t, m, a, 1)
			finds(t, m, b, 2)
			if got := string(bytesOf(t, m, 1)) + string(bytesOf(t, m, 2)); got != "zuyy" {
				t.Error(kind, got)
			}
			if n, e := m.Load(1, 0, 2); n != 'z'+256*'u' || e != 0 {
				t.Error(kind, n, e)
			}
			if m.Sweep() != 0 {
				t.Error(kind)
			}
		}
	}
}

func TestP7_3_HashIsFull(t *testing.T) {
	for _, capacity := range []int{1, 2, 63, 64} {
		m := small(t, hash, capacity)
		for n := range capacity {
			put(t, m, string([]byte{byte('A' + n)}), "ab")
		}
		for range 2 { // a try that fails changes nothing, nor takes a number
			if e := m.Update([]byte{0}, []byte("ab")); e != errFull || m.Len() != capacity {
				t.Error(capacity, e, m.Len())
			}
		}
		put(t, m, "A", "cd")
		if e := m.Delete([]byte("A")); e != 0 {
			t.Error(e)
		}
		put(t, m, "\x00", "ef")
		finds(t, m, "\x00", capacity+1)
		if string(bytesOf(t, m, 1)) != "cd" || m.Len() != capacity {
			t.Error(capacity, m.Len())
		}
	}
}

func TestP7_3_LruForgets(t *testing.T) {
	m := small(t, lru, 3)
	for _, x := range []struct {
		do   string // + or !: Update, ?: Lookup, and a key
		want string
	}{
		{"+a", "a"}, {"+b", "ab"}, {"+c", "abc"}, {"+d", "bcd"}, // no use since: the first one goes
		{"?b", "bcd"}, {"+e", "bde"}, // a Lookup is a use
		{"+d", "bde"}, {"+f", "def"}, // an Update of what is there is one
		{"?z", "def"}, {"+g", "dfg"}, // a Lookup that finds nothing is none
		{"!f", "dfg"}, {"+h", "fgh"}, // the value is too long: it is none either; d was used longest ago
		{"!f", "fgh"}, {"+i", "ghi"},
		{"?g", "ghi"}, {"?g", "ghi"}, {"?h", "ghi"}, {"+j", "ghj"}, {"+k", "hjk"},
	} {
		key := []byte(x.do[1:])
		switch x.do[0] {
		case '+':
			put(t, m, x.do[1:], "ab")
		case '!':
			if e := m.Update(key, []byte("abc")); e != errArg {
				t.Error(x.do, e)
			}
		case '?':
			m.Lookup(key)
		}
		if keys(m) != x.want {
			t.Fatalf("%s: %s, not %s", x.do, keys(m), x.want)
		}
	}
}

// Nothing but Lookup and Update is a use.
func TestP7_3_WhatIsNoUse(t *testing.T) {
	for name, do := range map[string]func(m *maps.Table){
		"Load":    func(m *maps.Table) { m.Load(1, 0, 1) },
		"Store":   func(m *maps.Table) { m.Store(1, 0, 1, 7) },
		"Entries": func(m *maps.Table) { m.Entries() },
		"Len":     func(m *maps.Table) { m.Len() },
		"Map":     func(m *maps.Table) { m.Map() },
		"Sweep":   func(m *maps.Table) { m.Sweep() },
		"Copy":    func(m *maps.Table) { m.Copy().Lookup([]byte("a")) },
		"Same":    func(m *maps.Table) { maps.Same(m, m) },
		"Delete":  func(m *maps.Table) { m.Delete([]byte("z")) },
		"short":   func(m *maps.Table) { m.Update([]byte("a"), nil) },
		"long":    func(m *maps.Table) { m.Lookup([]byte("aa")) },
	} {
		m := small(t, lru, 2)
		put(t, m, "a", "xy")
		put(t, m, "b", "xy")
		do(m)
		put(t, m, "c", "xy")
		if keys(m) != "bc" {
			t.Error(name, keys(m))
		}
	}
}

// Where there is room again behind a Delete, nothing is forgotten.
func TestP7_3_LruHasRoom(t *testing.T) {
	m := small(t, lru, 2)
	put(t, m, "a", "xy")
	put(t, m, "b", "xy")
	m.Delete([]byte("b"))
	put(t, m, "c", "xy")
	if keys(m) != "ac" {
		t.Error(keys(m))
	}
	one := small(t, lru, 1)
	for n := range 5 {
		key := string([]byte{byte('a' + n)})
		put(t, one, key, "xy")
		finds(t, one, key, n+1)
		if one.Len() != 1 {
			t.Error(one.Len())
		}
	}
}

// Each new entry has a new cell: one that was forgotten or deleted, too, that comes again.
func TestP7_3_NewCells(t *testing.T) {
	m := small(t, lru, 1)
	put(t, m, "a", "11")
	put(t, m, "b", "22")
	put(t, m, "a", "33")
	finds(t, m, "a", 3)
	m.Delete([]byte("a"))
	put(t, m, "a", "44")
	finds(t, m, "a", 4)
	for cell, want := range []string{"11", "22", "33", "44"} {
		if got := bytesOf(t, m, cell+1); string(got) != want {
			t.Error(cell, got)
		}
	}
}

// R3: what is handed in is neither changed nor kept.
func TestP7_3_NothingIsKept(t *testing.T) {
	for _, kind := range kinds {
		m := made(t, kind, 4, 2, 2)
		for range 2 { // new (but of an array), and there already
			key, value := make([]byte, 4, 8), []byte("xyzu")[:2]
			if e := m.Update(key, value); e != 0 || !bytes.Equal(key[:8], make([]byte, 8)) || string(value[:4]) != "xyzu" {
				t.Error(kind, e, key[:8], value[:4])
			}
			key[0], value[0] = 9, 9
			finds(t, m, "\x00\x00\x00\x00", 1)
			finds(t, m, "\x09\x00\x00\x00", 0)
			if got := bytesOf(t, m, 1); string(got) != "xy" {
				t.Error(kind, got)
			}
		}
	}
}

func TestP7_4_Delete(t *testing.T) {
	for _, kind := range []int{hash, lru} {
		m := made(t, kind, 2, 1, 3)
		for n, x := range []struct {
			key  string
			e    api.Errno
			left string
		}{
			{"", errArg, "aaabbb"}, {"a", errArg, "aaabbb"}, {"aaa", errArg, "aaabbb"}, {"aa\x00", errArg, "aaabbb"}, {"ba", errNone, "aaabbb"},
			{"ab", 0, "aabb"}, {"ab", errNone, "aabb"}, {"bb", 0, "aa"}, {"aa", 0, ""}, {"aa", errNone, ""}, {"a", errArg, ""},
		} {
			if n == 0 {
				for _, key := range []string{"ab", "bb", "aa"} {
					put(t, m, key, "x")
				}
			}
			if e := m.Delete([]byte(x.key)); e != x.e || keys(m) != x.left {
				t.Errorf("kind %d: Delete(%q): %d, left %q", kind, x.key, e, keys(m))
			}
			finds(t, m, x.key, 0)
		}
	}
}

func TestP7_4_DeleteOfAnArray(t *testing.T) {
	m := small(t, array, 2)
	for _, key := range []string{"\x00\x00\x00\x00", "\x01\x00\x00\x00", "\x02\x00\x00\x00", "", "\x00", "\x00\x00\x00\x00\x00"} {
		if e := m.Delete([]byte(key)); e != errArg || m.Len() != 2 {
			t.Errorf("%q: %d, %d", key, e, m.Len())
		}
	}
}

// What is deleted is out of the order of uses, too.
func TestP7_4_DeleteAndForget(t *testing.T) {
	m := small(t, lru, 3)
	for _, key := range []string{"a", "b", "c"} {
		put(t, m, key, "xy")
	}
	m.Delete([]byte("a"))
	put(t, m, "a", "xy") // anew: b was used longest ago now
	put(t, m, "d", "xy")
	put(t, m, "e", "xy")
	if keys(m) != "ade" {
		t.Error(keys(m))
	}
}

// Nil tables, and such as no call made: nothing is there, and nothing comes.
func TestP7_0_NoTable(t *testing.T) {
	for _, m := range []*maps.Table{nil, {}, new(maps.Table)} {
		for range 2 {
			if m.Map() != (api.Map{}) || m.Len() != 0 || len(m.Entries()) != 0 || m.Sweep() != 0 || m.Copy() != nil {
				t.Error(m.Map(), m.Len(), m.Entries())
			}
			for _, key := range [][]byte{nil, {}, {1}, {0, 0, 0, 0}, make([]byte, 1000)} {
				if c, is := m.Lookup(key); c != 0 || is {
					t.Error(key, c, is)
				}
				if e := m.Update(key, key); e != errNil {
					t.Error(key, e)
				}
				if e := m.Delete(key); e != errNil {
					t.Error(key, e)
				}
			}
			for _, size := range []int{0, 1, 2, 3, 4, 8, -1} {
				for _, cell := range []int{-1, 0, 1} {
					if n, e := m.Load(cell, 0, size); n != 0 || e != errNil {
						t.Error(cell, size, n, e)
					}
					if e := m.Store(cell, -1, size, 1); e != errNil {
						t.Error(cell, size, e)
					}
				}
			}
		}
	}
}

func TestExamples(t *testing.T) {
	m := small(t, hash, 2)
	put(t, m, "a", "\x01\x02")
	finds(t, m, "a", 1)
	if n, e := m.Load(1, 0, 2); n != 513 || e != 0 {
		t.Error(n, e)
	}
	if n, e := m.Load(1, 1, 2); n != 0 || e != trapBound {
		t.Error(n, e)
	}
	put(t, m, "b", "\x00\x00")
	if e := m.Update([]byte("c"), []byte{0, 0}); e != errFull {
		t.Error(e)
	}
	put(t, m, "a", "\x05\x05")
	finds(t, m, "a", 1)
	if e := m.Delete([]byte("a")); e != 0 {
		t.Error(e)
	}
	finds(t, m, "a", 0)
	if n, e := m.Load(1, 0, 1); n != 5 || e != 0 {
		t.Error(n, e)
	}
	if n := m.Sweep(); n != 1 {
		t.Error(n)
	}
	if _, e := m.Load(1, 0, 1); e != errNone {
		t.Error(e)
	}
	put(t, m, "c", "\x07\x07")
	finds(t, m, "c", 3)

	l := small(t, lru, 2)
	put(t, l, "a", "xy")
	put(t, l, "b", "xy")
	finds(t, l, "a", 1)
	put(t, l, "c", "xy")
	if keys(l) != "ac" {
		t.Error(keys(l))
	}

	a := small(t, array, 2)
	if e := a.Update([]byte{2, 0, 0, 0}, []byte("xy")); e != errNone {
		t.Error(e)
	}
	if e := a.Delete([]byte{0, 0, 0, 0}); e != errArg || a.Len() != 2 {
		t.Error(e, a.Len())
	}
}

// All calls, one behind the other, against the chapter's words.
func TestP7_3_ByTheChapter(t *testing.T) {
	chance := rand.New(rand.NewSource(73))
	count := map[answer]int{}
	for k := range 400 {
		m := anyMap(chance)
		if k%3 == 0 {
			m.Cap = 1 + chance.Intn(4) // much is forgotten, or refused
		}
		p := play(t, chance, m)
		for n := range 400 {
			p.step()
			if n%100 == 99 {
				alike(t, p.m, p.want)
			}
		}
		for what, n := range p.count {
			count[what] += n
		}
	}
	for _, x := range []struct {
		call string
		l    []api.Errno
	}{{"Update", []api.Errno{0, errArg, errNone, errFull}}, {"Delete", []api.Errno{0, errArg, errNone}}, {"Load", []api.Errno{0, errArg, errNone, trapBound}}, {"Store", []api.Errno{0, errArg, errNone, trapBound}}} {
		for _, e := range x.l {
			if n := count[answer{x.call, e}]; n < 200 {
				t.Errorf("%s told %d %d times alone", x.call, e, n)
			}
		}
	}
}
