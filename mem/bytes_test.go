package mem_test

import (
	"bytes"
	"math"
	"math/rand"
	"slices"
	"testing"

	"stockade/api"
	"stockade/mem"
)

func TestP6_4_GetRows(t *testing.T) {
	three := []byte{1, 2, 3}
	ten := []byte{1, 2, 3, 4, 5, 6, 7, 8, 9, 255}
	for k, x := range []struct {
		b    []byte
		off  int64
		size int
		want uint64
		e    api.Errno
	}{
		{three, 1, 2, 770, 0},
		{three, 0, 1, 1, 0},
		{three, 2, 1, 3, 0},
		{three, 0, 2, 513, 0},
		{three, 3, 1, 0, trapBound},
		{three, 2, 2, 0, trapBound},
		{three, 0, 4, 0, trapBound},
		{three, 0, 8, 0, trapBound},
		{three, -1, 1, 0, trapBound},
		{three, -1, 4, 0, trapBound},
		{three, 0, 3, 0, errArg},
		{three, 4, 3, 0, errArg},
		{three, -1, 0, 0, errArg},
		{ten, 0, 8, 0x0807060504030201, 0},
		{ten, 1, 8, 0x0908070605040302, 0},
		{ten, 2, 8, 0xff09080706050403, 0},
		{ten, 3, 8, 0, trapBound},
		{ten, 6, 4, 0xff090807, 0},
		{ten, 7, 4, 0, trapBound},
		{ten, 3, 4, 0x07060504, 0},
		{ten, 8, 2, 0xff09, 0},
		{ten, 9, 2, 0, trapBound},
		{ten, 9, 1, 255, 0},
		{ten, 10, 1, 0, trapBound},
		{nil, 0, 1, 0, trapBound},
		{nil, 0, 0, 0, errArg},
		{[]byte{}, 0, 8, 0, trapBound},
		{[]byte{}, -8, 8, 0, trapBound},
		{ten, math.MaxInt64, 8, 0, trapBound},
		{ten, math.MaxInt64 - 7, 8, 0, trapBound},
		{ten, math.MinInt64, 8, 0, trapBound},
		{ten, 1 << 32, 1, 0, trapBound},
		{ten, 0, 1 << 32, 0, errArg},
	} {
		if n, e := mem.Get(x.b, x.off, x.size); n != x.want || e != x.e {
			t.Errorf("row %d: Get of %v at %d of %d: %d, %d, not %d, %d", k, x.b, x.off, x.size, n, e, x.want, x.e)
		}
	}
}

func TestP6_4_PutRows(t *testing.T) {
	three := []byte{1, 2, 3}
	for k, x := range []struct {
		b    []byte
		off  int64
		size int
		n    uint64
		want []byte
		e    api.Errno
	}{
		{three, 2, 1, 255, []byte{1, 2, 255}, 0},
		{three, 2, 2, 255, nil, trapBound},
		{three, 0, 2, 0xabcd12, []byte{0x12, 0xcd, 3}, 0},
		{three, 1, 2, 7, []byte{1, 7, 0}, 0},
		{three, 0, 1, 256, []byte{0, 2, 3}, 0},
		{three, 0, 4, 0, nil, trapBound},
		{three, -1, 1, 0, nil, trapBound},
		{three, 3, 1, 0, nil, trapBound},
		{three, 0, 3, 0, nil, errArg},
		{three, -1, 5, 0, nil, errArg},
		{make([]byte, 9), 1, 8, 0x0102030405060708, []byte{0, 8, 7, 6, 5, 4, 3, 2, 1}, 0},
		{make([]byte, 9), 4, 4, 0x0102030405060708, []byte{0, 0, 0, 0, 8, 7, 6, 5, 0}, 0},
		{make([]byte, 9), 2, 8, 1, nil, trapBound},
		{make([]byte, 8), 0, 8, math.MaxUint64, bytes.Repeat([]byte{255}, 8), 0},
		{nil, 0, 1, 1, nil, trapBound},
		{nil, 0, 0, 1, nil, errArg},
		{make([]byte, 8), math.MaxInt64, 8, 1, nil, trapBound},
		{make([]byte, 8), math.MinInt64, 8, 1, nil, trapBound},
	} {
		if b, e := mem.Put(x.b, x.off, x.size, x.n); !bytes.Equal(b, x.want) || e != x.e {
			t.Errorf("row %d: Put of %v at %d of %d: %v, %d, not %v, %d", k, x.b, x.off, x.size, b, e, x.want, x.e)
		}
	}
}

func TestP6_4_ByTheChapter(t *testing.T) {
	chance := rand.New(rand.NewSource(64))
	count := map[api.Errno]int{}
	for k := range 400 {
		b := anyBytes(chance, k%50)
		offs := slices.Clone(farOffs)
		for off := -9; off < len(b)+10; off++ {
			offs = append(offs, int64(off))
		}
		for _, off := range offs {
			for _, size := range append(slices.Clone(sizes), pick(chance, noSizes...)) {
				n, e := mem.Get(b, off, size)
				if want, told := toldGet(b, off, size); n != want || e != told {
					t.Fatalf("Get of %v at %d of %d: %d, %d, not %d, %d", b, off, size, n, e, want, told)
				}
				x := anyNumber(chance)
				l, e := mem.Put(b, off, size, x)
				if want, told := toldPut(b, off, size, x); !bytes.Equal(l, want) || e != told {
					t.Fatalf("Put of %d to %v at %d of %d: %v, %d, not %v, %d", x, b, off, size, l, e, want, told)
				}
				count[e]++
			}
		}
	}
	if min(count[0], count[errArg], count[trapBound]) < 5000 {
		t.Error("too few of one kind: ", count)
	}
}

func TestP6_4_MuchRoom(t *testing.T) {
	chance := rand.New(rand.NewSource(640))
	for _, count := range []int{65535, 1<<20 + 1} {
		b := anyBytes(chance, count)
		for range 20 {
			for _, size := range sizes {
				off := pick(chance, int64(chance.Intn(count-7)), int64(count-size), int64(count-size+1))
				n, e := mem.Get(b, off, size)
				if want, told := toldGet(b, off, size); n != want || e != told {
					t.Fatalf("Get at %d of %d: %d, %d, not %d, %d", off, size, n, e, want, told)
				}
				l, f := mem.Put(b, off, size, ^n)
				if f != e || e == 0 && (len(l) != count || !bytes.Equal(l[:off], b[:off]) || !bytes.Equal(l[off+int64(size):], b[off+int64(size):]) || l[off] != ^b[off]) {
					t.Fatalf("Put at %d of %d: %d", off, size, f)
				}
			}
		}
	}
}

// R3: what is handed in is left as it is, the room behind its end too, and what is handed out is new memory.
func TestP6_4_NewMemory(t *testing.T) {
	chance := rand.New(rand.NewSource(641))
	for k := range 5000 {
		room := anyBytes(chance, 24)
		was := bytes.Clone(room)
		b := room[k%4 : 4+k%17]
		size := pick(chance, sizes...)
		off := int64(chance.Intn(20) - 1)
		mem.Get(b, off, size)
		l, e := mem.Put(b, off, size, chance.Uint64())
		if !bytes.Equal(room, was) {
			t.Fatalf("%v was %v", room, was)
		}
		if e != 0 {
			continue
		}
		if len(l) != len(b) {
			t.Fatalf("%v, of %v", l, b)
		}
		own := bytes.Clone(l)
		for j := range l[:cap(l)] {
			l[:cap(l)][j] ^= 255
		}
		if !bytes.Equal(room, was) {
			t.Fatalf("%v was %v: an answer is its memory", room, was)
		}
		for j := range room {
			room[j] = ^room[j]
		}
		for j := range l {
			if l[j] != ^own[j] {
				t.Fatalf("%v, not the other of %v: an answer hangs on what was handed in", l, own)
			}
		}
	}
}

// A Put that takes the bytes' own ones is told a new memory, too.
func TestP6_4_TheSameAgain(t *testing.T) {
	b := []byte{9, 8, 7, 6, 5, 4, 3, 2}
	x, _ := mem.Get(b, 0, 8)
	l, e := mem.Put(b, 0, 8, x)
	if !bytes.Equal(l, b) || e != 0 {
		t.Fatal(l, e)
	}
	l[0] = 1
	if b[0] != 9 {
		t.Error(b)
	}
}
