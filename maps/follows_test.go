package maps_test

import (
	"bytes"
	"math/rand"
	"slices"
	"testing"

	"stockade/api"
	"stockade/maps"
)

// P7.8, with no model: what was last updated is found, as far as it was not stored to, deleted or forgotten since.
func TestP7_8_WhatWasLastUpdated(t *testing.T) {
	chance := rand.New(rand.NewSource(78))
	found := 0
	for range 200 {
		m := anyMap(chance)
		l := made(t, m.Kind, m.Key, m.Value, m.Cap)
		last := map[string][]byte{}
		if m.Kind == array {
			for n := range m.Cap {
				last[string(place(n))] = make([]byte, m.Value)
			}
		}
		for range 300 {
			key := string(bytes.Repeat([]byte{byte(chance.Intn(m.Cap + 3))}, m.Key))
			if m.Kind == array {
				key = string(place(chance.Intn(m.Cap + 3)))
			}
			value := anyBytes(chance, m.Value)
			switch chance.Intn(5) {
			case 0, 1:
				if l.Update([]byte(key), value) == 0 {
					last[key] = value
				}
			case 2:
				if l.Delete([]byte(key)) == 0 {
					delete(last, key)
				}
			case 3:
				l.Sweep()
			}
			cell, is := l.Lookup([]byte(key))
			want, told := last[key]
			if m.Kind == lru && told && !is { // forgotten, which is asked elsewhere
				delete(last, key)
				continue
			}
			if is != told || is && !bytes.Equal(bytesOf(t, l, cell), want) {
				t.Fatalf("%v: Lookup(%v): %d, %v, not %v, %v", m, key, cell, is, want, told)
			}
			if is {
				found++
			}
		}
	}
	if found < 5000 {
		t.Error("too few are found: ", found)
	}
}

// What is stored to the cell that Lookup tells is what the entry has.
func TestP7_8_StoredSince(t *testing.T) {
	for _, kind := range kinds {
		m := made(t, kind, 4, 4, 2)
		key := place(1)
		if e := m.Update(key, []byte("abcd")); e != 0 {
			t.Fatal(e)
		}
		cell, _ := m.Lookup(key)
		if e := m.Store(cell, 1, 2, 'x'+256*'y'); e != 0 {
			t.Fatal(e)
		}
		again, is := m.Lookup(key)
		if l := m.Entries(); again != cell || !is || string(l[len(l)-1].Value) != "axyd" {
			t.Error(kind, again, is, l)
		}
	}
}

func TestP7_8_AnArrayHasCapEntries(t *testing.T) {
	chance := rand.New(rand.NewSource(781))
	for range 60 {
		m := anyMap(chance)
		m.Kind, m.Key = array, 4
		p := play(t, chance, m)
		for range 100 {
			p.step()
			l := p.m.Entries()
			if p.m.Len() != m.Cap || len(l) != m.Cap {
				t.Fatal(m, p.m.Len(), len(l))
			}
			n := chance.Intn(m.Cap)
			if cell, is := p.m.Lookup(place(n)); cell != n+1 || !is || !bytes.Equal(l[n].Key, place(n)) {
				t.Fatal(m, n, cell, is, l[n])
			}
		}
	}
}

// P7.9, by when each key was used last: without a Delete those are there whose last use is latest.
func TestP7_9_Forgetting(t *testing.T) {
	chance := rand.New(rand.NewSource(79))
	for range 300 {
		capacity := pick(chance, 1, 2, 3, 5, 63, 64, 1+chance.Intn(64))
		m := small(t, lru, capacity)
		span := capacity + 1 + chance.Intn(capacity+2)
		used := map[byte]int{} // of keys that ever were there
		for now := range 4 * span {
			key := byte(chance.Intn(span))
			switch chance.Intn(8) {
			case 0, 1, 2:
				if _, is := m.Lookup([]byte{key}); is {
					used[key] = now
				}
			case 3:
				m.Sweep()
			case 4:
				m.Load(now, 0, 1)
				m.Store(now, 0, 1, 0)
			default:
				put(t, m, string([]byte{key}), "xy")
				used[key] = now
			}
			var latest []byte
			for key := range used {
				latest = append(latest, key)
			}
			slices.SortFunc(latest, func(a, b byte) int { return used[b] - used[a] })
			latest = latest[:min(len(latest), capacity)]
			slices.Sort(latest)
			if keys(m) != string(latest) || m.Len() != len(latest) {
				t.Fatalf("Cap %d: %v, not %v", capacity, []byte(keys(m)), latest)
			}
		}
	}
}

// A Delete makes room, and the order of the others stays.
func TestP7_9_WithDeletes(t *testing.T) {
	chance := rand.New(rand.NewSource(791))
	for range 200 {
		m := api.Map{Kind: lru, Key: 1, Value: 1, Cap: 1 + chance.Intn(12)}
		p := play(t, chance, m)
		for range 200 {
			p.step()
			if want := p.want.entries(); !sameEntries(p.m.Entries(), want) {
				t.Fatal(p.m.Entries(), want)
			}
		}
	}
}

// P7.10, cell by cell: between two Sweeps what was there stays, and tells what was laid there last; no number comes again.
func TestP7_10_CellsStay(t *testing.T) {
	chance := rand.New(rand.NewSource(710))
	loose := 0
	for range 150 {
		m := anyMap(chance)
		m.Kind, m.Cap = pick(chance, hash, lru), 1+chance.Intn(6)
		l := made(t, m.Kind, m.Key, m.Value, m.Cap)
		laid := map[int][]byte{} // what was laid in each cell that was not swept
		ever := map[int]bool{}
		for range 150 {
			key := bytes.Repeat([]byte{byte(chance.Intn(m.Cap + 2))}, m.Key)
			value := anyBytes(chance, m.Value)
			switch chance.Intn(8) {
			case 0, 1, 2:
				was, there := l.Lookup(key)
				if l.Update(key, value) != 0 {
					continue
				}
				cell, is := l.Lookup(key)
				if !is || there != ever[cell] || there && cell != was {
					t.Fatalf("%v: the cell %d, of %d, %v", m, cell, was, there)
				}
				ever[cell], laid[cell] = true, value
			case 3:
				l.Delete(key)
			case 4, 5:
				cell := 1 + chance.Intn(len(ever)+1)
				off := chance.Intn(m.Value)
				if e := l.Store(cell, int64(off), 1, uint64(value[0])); (e == 0) != (laid[cell] != nil) {
					t.Fatalf("%v: the cell %d: %d", m, cell, e)
				} else if e == 0 {
					laid[cell][off] = value[0]
				}
			case 6:
				l.Lookup(key)
			case 7:
				if chance.Intn(4) == 0 {
					sweep(t, l, laid)
				}
			}
			for cell, want := range laid {
				if got := bytesOf(t, l, cell); !bytes.Equal(got, want) {
					t.Fatalf("%v: the cell %d: %v, not %v", m, cell, got, want)
				}
			}
			loose += len(laid) - l.Len()
		}
	}
	if loose < 10000 {
		t.Error("too few cells that no entry has: ", loose)
	}
}

// sweep: all cells go but those that Lookup tells of the entries' keys.
func sweep(t *testing.T, l *maps.Table, laid map[int][]byte) {
	t.Helper()
	count, before := l.Sweep(), len(laid)
	held := map[int]bool{}
	for _, x := range l.Entries() {
		cell, _ := l.Copy().Lookup(x.Key)
		held[cell] = true
	}
	for cell := range laid {
		if !held[cell] {
			delete(laid, cell)
			if _, e := l.Load(cell, 0, 1); e != errNone {
				t.Fatalf("the cell %d is there: %d", cell, e)
			}
		}
	}
	if count != before-len(laid) {
		t.Fatalf("%d are swept, not %d", count, before-len(laid))
	}
}

// A number is never another one's, also behind Sweeps and in copies.
func TestP7_10_NumbersGoOn(t *testing.T) {
	m := small(t, lru, 2)
	for n := 1; n <= 2000; n++ {
		put(t, m, string([]byte{byte(n % 5)}), "xy")
		finds(t, m, string([]byte{byte(n % 5)}), n)
		if n%7 == 0 {
			m.Delete([]byte{byte(n % 5)})
		}
		if n%3 == 0 {
			m.Sweep()
		}
		if n%11 == 0 {
			m = m.Copy()
		}
	}
}

// R2: two tables to which the same is done tell the same, whatever else is done beside them.
func TestP7_Again(t *testing.T) {
	chance := rand.New(rand.NewSource(711))
	for seed := range int64(60) {
		m := anyMap(chance)
		p, q := play(t, rand.New(rand.NewSource(seed)), m), play(t, rand.New(rand.NewSource(seed)), m)
		for range 200 {
			p.step()
			q.step()
		}
		if !maps.Same(p.m, q.m) || !sameEntries(p.m.Entries(), q.m.Entries()) {
			t.Fatal(p.m.Entries(), q.m.Entries())
		}
		alike(t, p.m, q.want)
	}
}

// R1: whatever is handed in, each call ends, and tells zeros beside an error.
func TestP7_Anything(t *testing.T) {
	chance := rand.New(rand.NewSource(712))
	m := small(t, lru, 3)
	for range 20000 {
		x := chance.Uint64() >> chance.Intn(64)
		y := chance.Uint64() >> chance.Intn(64)
		z := chance.Uint64() >> chance.Intn(64)
		if got, e := maps.New(api.Map{Kind: int(x), Key: int(y), Value: int(z), Cap: -int(x)}); (got == nil) != (e != 0) {
			t.Fatal(x, y, z, got, e)
		}
		key, value := anyBytes(chance, chance.Intn(4)), anyBytes(chance, chance.Intn(5))
		was := bytes.Clone(key)
		m.Update(key, value)
		m.Delete(anyBytes(chance, chance.Intn(4)))
		if n, is := m.Lookup(key); is != (n != 0) || !bytes.Equal(key, was) {
			t.Fatal(key, n, is)
		}
		if n, e := m.Load(int(x)-int(y), int64(y), int(z)); e != 0 && n != 0 {
			t.Fatal(x, y, z, n, e)
		}
		m.Store(int(x), -int64(y), int(z), x)
		if m.Len() > 3 || len(m.Entries()) != m.Len() {
			t.Fatal(m.Len())
		}
	}
}
