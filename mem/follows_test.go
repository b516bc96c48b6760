package mem_test

import (
	"bytes"
	"math/rand"
	"testing"

	"stockade/api"
	"stockade/mem"
)

// stores hands on stores that are done: each value to each place that it may be stored to.
func stores(seed int64, f func(from, to mem.Frame, off int64, size int, v api.Value)) {
	chance := rand.New(rand.NewSource(seed))
	for range 24 {
		from := anyFrame(chance)
		for at := int64(0); at < 512; at++ {
			for _, size := range sizes {
				if at%int64(size) != 0 {
					continue
				}
				l := []api.Value{n(anyNumber(chance)), n(chance.Uint64())}
				if size == 8 {
					l = append(l, append(addresses(), anyAddress(chance))...)
				}
				for _, v := range l {
					if to, e := mem.Store(from, at, size, v); e == 0 {
						f(from, to, at, size, v)
					}
				}
			}
		}
	}
}

// done: how many stores each kind's must have been handed on.
func done(t *testing.T, count map[byte]int) {
	t.Helper()
	if count[num] != 24*2*(512+256+128+64) {
		t.Error("not all stores of numbers are done: ", count)
	}
	for kind := byte(ctx); kind <= cell; kind++ {
		if count[kind] < 24*64 {
			t.Error("not all stores of addresses are done: ", count)
		}
	}
}

func TestP6_5_Back(t *testing.T) {
	count := map[byte]int{}
	stores(65, func(from, to mem.Frame, off int64, size int, v api.Value) {
		count[v.Kind]++
		want := v
		if v.Kind == num {
			want.N <<= 64 - 8*size // modulo 2^(8 size)
			want.N >>= 64 - 8*size
		}
		if l, e := mem.Load(to, off, size); l != want || e != 0 {
			t.Fatalf("%+v: %v stored at %d of %d is loaded as %v, %d", from, v, off, size, l, e)
		}
	})
	done(t, count)
}

func TestP6_6_Apart(t *testing.T) {
	count := map[byte]int{}
	stores(66, func(from, to mem.Frame, off int64, size int, v api.Value) {
		count[v.Kind]++
		if !mem.Right(to) {
			t.Fatalf("%+v: %v stored at %d of %d: may not be: %+v", from, v, off, size, to)
		}
		for k := range from {
			if int64(k) != off/8 && from[k] != to[k] {
				t.Fatalf("%+v: %v stored at %d of %d changes slot %d: %+v", from, v, off, size, k, to[k])
			}
		}
		if from[off/8].V != (api.Value{}) || v.Kind != num {
			return
		}
		for at := off / 8 * 8; at < off/8*8+8; at++ {
			if off <= at && at < off+int64(size) {
				continue
			}
			was, e := mem.Load(from, at, 1)
			if is, f := mem.Load(to, at, 1); is != was || e != f {
				t.Fatalf("%+v: %v stored at %d of %d: byte %d: %v, %d, not %v, %d", from, v, off, size, at, is, f, was, e)
			}
		}
	})
	done(t, count)
}

// A frame that many stores went to is what the chapter says, and may be.
func TestP6_6_OneBehindTheOther(t *testing.T) {
	chance := rand.New(rand.NewSource(660))
	for range 60 {
		var f, want mem.Frame
		for range 300 {
			size := pick(chance, sizes...)
			off := int64(chance.Intn(96) / size * size)
			v := n(anyNumber(chance))
			if size == 8 && chance.Intn(2) == 0 {
				v = anyAddress(chance)
			}
			g, e := mem.Store(f, off, size, v)
			w, told := toldStore(want, off, size, v)
			if g != w || e != told || e != 0 || !mem.Right(g) {
				t.Fatalf("%+v: Store of %v at %d of %d: %+v, %d, not %+v, %d", f, v, off, size, g, e, w, told)
			}
			f, want = g, w
		}
	}
}

func TestP6_7_Parts(t *testing.T) {
	chance := rand.New(rand.NewSource(67))
	for k := range 4000 {
		b := anyBytes(chance, 8+k%60)
		for _, half := range []int{1, 2, 4} {
			off := int64(chance.Intn(len(b) - 2*half + 1))
			all, e := mem.Get(b, off, 2*half)
			low, f := mem.Get(b, off, half)
			high, g := mem.Get(b, off+int64(half), half)
			if e != 0 || f != 0 || g != 0 || all != low+high<<(8*half) {
				t.Fatalf("%v at %d of %d: %d, of %d and %d", b, off, 2*half, all, low, high)
			}
		}
	}
}

// Of the stack too: its numbers are those of its bytes.
func TestP6_7_PartsOfTheStack(t *testing.T) {
	count := 0
	stores(670, func(_, to mem.Frame, off int64, size int, v api.Value) {
		if size == 1 || v.Kind != num {
			return
		}
		count++
		half := size / 2
		all, e := mem.Load(to, off, size)
		low, f := mem.Load(to, off, half)
		high, g := mem.Load(to, off+int64(half), half)
		if e != 0 || f != 0 || g != 0 || all.N != low.N+high.N<<(8*half) {
			t.Fatalf("%+v at %d of %d: %v, of %v and %v", to, off, size, all, low, high)
		}
	})
	if count < 20000 {
		t.Error("too few: ", count)
	}
}

func TestP6_7_WhatIsLaid(t *testing.T) {
	chance := rand.New(rand.NewSource(671))
	for k := range 4000 {
		b := anyBytes(chance, 8+k%60)
		for _, size := range sizes {
			off := int64(chance.Intn(len(b) - size + 1))
			x := anyNumber(chance)
			l, e := mem.Put(b, off, size, x)
			got, f := mem.Get(l, off, size)
			if e != 0 || f != 0 || got != x<<(64-8*size)>>(64-8*size) {
				t.Fatalf("%d laid to %v at %d of %d is told as %d", x, b, off, size, got)
			}
			end := off + int64(size)
			if len(l) != len(b) || !bytes.Equal(l[:off], b[:off]) || !bytes.Equal(l[end:], b[end:]) {
				t.Fatalf("%d laid to %v at %d of %d: %v", x, b, off, size, l)
			}
		}
	}
}

// R1, R2: whatever is handed in, each call ends, tells zeros beside an error, and answers the same again.
func TestP6_Anything(t *testing.T) {
	chance := rand.New(rand.NewSource(68))
	for range 20000 {
		var f mem.Frame
		for range chance.Intn(4) {
			s := mem.Slot{Have: byte(chance.Intn(256)), V: api.Value{Kind: byte(chance.Intn(256)), Map: int(anyNumber(chance)), N: anyNumber(chance), Off: anyOff(chance)}}
			chance.Read(s.B[:])
			f[chance.Intn(64)] = pick(chance, s, anySlot(chance))
		}
		off, size, x := pick(chance, anyOff(chance), anyPlace(chance)), pick(chance, int(anyNumber(chance)), anySize(chance)), anyNumber(chance)
		v := pick(chance, api.Value{Kind: byte(x), Map: int(anyNumber(chance)), N: x, Off: off}, n(x), anyAddress(chance))
		b := anyBytes(chance, chance.Intn(64))

		loaded, e := mem.Load(f, off, size)
		again, g := mem.Load(f, off, size)
		if loaded != again || e != g || e != 0 && loaded != (api.Value{}) {
			t.Fatalf("Load at %d of %d: %v, %d; %v, %d", off, size, loaded, e, again, g)
		}
		to, e := mem.Store(f, off, size, v)
		other, g := mem.Store(f, off, size, v)
		if to != other || e != g || e != 0 && to != (mem.Frame{}) || e == 0 && (!mem.Right(f) || !mem.May(v) || !mem.Right(to)) {
			t.Fatalf("Store of %v at %d of %d: %d, %d", v, off, size, e, g)
		}
		if n, e := mem.Get(b, off, size); e != 0 && n != 0 {
			t.Fatalf("Get at %d of %d: %d, %d", off, size, n, e)
		}
		if l, e := mem.Put(b, off, size, x); e != 0 && len(l) != 0 {
			t.Fatalf("Put at %d of %d: %v, %d", off, size, l, e)
		}
	}
}
