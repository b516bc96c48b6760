package mem_test

import (
	"math"
	"math/rand"
	"slices"
	"testing"

	"stockade/api"
	"stockade/mem"
)

func TestP6_1_MayRows(t *testing.T) {
	for _, v := range []api.Value{
		{}, n(0), n(1), n(1 << 63), n(math.MaxUint64),
		{Kind: ctx}, {Kind: ctx, Off: 1}, {Kind: ctx, Off: -1}, {Kind: ctx, Off: math.MinInt64},
		{Kind: pkt}, {Kind: pkt, Off: math.MaxInt64}, {Kind: pkt, Off: -1 << 20},
		{Kind: frame}, {Kind: frame, Off: 512}, {Kind: frame, Off: math.MinInt64},
		{Kind: ref}, {Kind: ref, Map: 1}, {Kind: ref, Map: math.MaxInt},
		{Kind: cell, N: 1}, {Kind: cell, N: math.MaxUint64, Map: math.MaxInt, Off: math.MinInt64}, {Kind: cell, N: 1, Off: 1}, {Kind: cell, N: 1, Map: 3},
	} {
		if !mem.May(v) {
			t.Error(v, "may be")
		}
	}
	for _, v := range mayNots() {
		if mem.May(v) {
			t.Error(v, "may not be")
		}
	}
}

func TestP6_1_MayByTheChapter(t *testing.T) {
	may := 0
	for kind := range 256 {
		for _, m := range []int{0, 1, 2, 3, 4, -1, -2, math.MaxInt, math.MinInt} {
			for _, x := range []uint64{0, 1, 2, 255, 1 << 32, 1 << 63, math.MaxUint64} {
				for _, off := range []int64{0, 1, -1, 8, 512, math.MaxInt64, math.MinInt64} {
					v := api.Value{Kind: byte(kind), Map: m, N: x, Off: off}
					if mem.May(v) != toldMay(v) {
						t.Fatal(v, mem.May(v))
					}
					if toldMay(v) {
						may++
					}
				}
			}
		}
	}
	if want := 1 + 7 + 3*7 + 6 + 6*6*7; may != want {
		t.Errorf("%d values that may be, not %d", may, want)
	}
}

// The types are as the chapter tells them: a conversion builds only where they are.
func TestP6_1_Types(t *testing.T) {
	type slot = struct {
		Have byte
		B    [8]byte
		V    api.Value
	}
	f := [64]mem.Slot(mem.Frame{})
	f[63] = mem.Slot(slot{Have: 255, V: api.Value{Kind: ctx}})
	if !mem.Right(mem.Frame(f)) {
		t.Error(f)
	}
}

// Each slot may be wrong, and may be right.
func TestP6_1_RightSlots(t *testing.T) {
	if !mem.Right(mem.Frame{}) {
		t.Error("the zero frame may be")
	}
	chance := rand.New(rand.NewSource(611))
	for k := range 64 {
		for n, s := range noSlots() {
			f := anyFrame(chance)
			f[k] = s
			if mem.Right(f) {
				t.Fatalf("row %d: %+v may not be, in slot %d", n, s, k)
			}
		}
		for _, v := range addresses() {
			f := anyFrame(chance)
			f[k] = mem.Slot{Have: 255, V: v}
			if !mem.Right(f) {
				t.Fatalf("%+v may be, in slot %d", v, k)
			}
		}
	}
}

// Of each Have each byte may be something, or not.
func TestP6_1_RightBytes(t *testing.T) {
	for have := range 256 {
		var f mem.Frame
		f[have%64].Have = byte(have)
		if !mem.Right(f) {
			t.Fatalf("Have %d and noughts may be", have)
		}
		for j := range 8 {
			for _, b := range []byte{1, 2, 128, 255} {
				g := f
				g[have%64].B[j] = b
				if mem.Right(g) != (have>>j&1 == 1) {
					t.Fatalf("Have %d, byte %d being %d: %v", have, j, b, mem.Right(g))
				}
			}
		}
	}
}

func TestP6_1_RightByTheChapter(t *testing.T) {
	chance := rand.New(rand.NewSource(612))
	count := map[bool]int{}
	for range 20000 {
		f := anyFrame(chance)
		s := &f[chance.Intn(64)]
		switch chance.Intn(6) {
		case 0:
			s.Have ^= 1 << chance.Intn(8)
		case 1:
			s.B[chance.Intn(8)] = byte(chance.Intn(3))
		case 2:
			s.V.Kind = byte(chance.Intn(9))
		case 3:
			s.V.Off = anyOff(chance)
		case 4:
			s.V.Map = pick(chance, -1, 0, 1)
		}
		if mem.Right(f) != toldRight(f) {
			t.Fatalf("%+v: %v", f, mem.Right(f))
		}
		count[toldRight(f)]++
	}
	if min(count[true], count[false]) < 4000 {
		t.Error("too few of one kind: ", count)
	}
}

// chapters: the frames of the chapter's examples 2 and 3.
func chapters(t *testing.T) (two, three, four mem.Frame) {
	two, e := mem.Store(mem.Frame{}, 8, 4, n(258))
	three, f := mem.Store(mem.Frame{}, 16, 8, api.Value{Kind: frame, Off: 512})
	four, g := mem.Store(three, 20, 4, n(7))
	if e != 0 || f != 0 || g != 0 {
		t.Fatal(e, f, g)
	}
	return two, three, four
}

func TestP6_2_Rows(t *testing.T) {
	two, three, four := chapters(t)
	top := api.Value{Kind: frame, Off: 512}
	var zero mem.Frame
	var full mem.Frame
	for k := range full {
		full[k] = mem.Slot{Have: 255, B: [8]byte{1, 2, 3, 4, 5, 6, 7, byte(k)}}
	}
	for k, x := range []struct {
		f    mem.Frame
		off  int64
		size int
		want api.Value
		e    api.Errno
	}{
		{zero, 0, 1, api.Value{}, trapEmpty},
		{zero, 512, 1, api.Value{}, trapBound},
		{zero, 4, 8, api.Value{}, trapAlign},
		{zero, 0, 3, api.Value{}, errArg},
		{two, 8, 1, n(2), 0},
		{two, 9, 1, n(1), 0},
		{two, 10, 2, n(0), 0},
		{two, 8, 4, n(258), 0},
		{two, 8, 8, api.Value{}, trapEmpty},
		{two, 12, 1, api.Value{}, trapEmpty},
		{three, 16, 8, top, 0},
		{three, 16, 4, api.Value{}, trapKind},
		{three, 23, 1, api.Value{}, trapKind},
		{three, 24, 1, api.Value{}, trapEmpty},
		{three, 15, 1, api.Value{}, trapEmpty},
		{four, 20, 4, n(7), 0},
		{four, 16, 4, api.Value{}, trapEmpty},
		{four, 16, 8, api.Value{}, trapEmpty},
		// the ends of the stack
		{full, 0, 8, n(0x0007060504030201), 0},
		{full, 504, 8, n(0x3f07060504030201), 0},
		{full, 511, 1, n(63), 0},
		{full, 510, 2, n(0x3f07), 0},
		{full, 508, 4, n(0x3f070605), 0},
		{full, 512, 8, api.Value{}, trapBound},
		{full, -1, 1, api.Value{}, trapBound},
		{full, -8, 8, api.Value{}, trapBound},
		// what is beyond is told ahead of what is not at a multiple
		{full, 511, 2, api.Value{}, trapBound},
		{full, 505, 8, api.Value{}, trapBound},
		{full, 509, 4, api.Value{}, trapBound},
		{full, -4, 8, api.Value{}, trapBound},
		{full, -1, 2, api.Value{}, trapBound},
		{full, 503, 8, api.Value{}, trapAlign},
		{full, 1, 2, api.Value{}, trapAlign},
		{full, 2, 4, api.Value{}, trapAlign},
		{full, 507, 4, api.Value{}, trapAlign},
		// and that ahead of an address, or of nothing
		{three, 17, 2, api.Value{}, trapAlign},
		{three, 18, 4, api.Value{}, trapAlign},
		{three, 12, 8, api.Value{}, trapAlign},
		{zero, 1, 2, api.Value{}, trapAlign},
		{zero, 512, 3, api.Value{}, errArg},
		{zero, math.MaxInt64, 8, api.Value{}, trapBound},
		{zero, math.MaxInt64, 0, api.Value{}, errArg},
		{zero, math.MinInt64, 8, api.Value{}, trapBound},
	} {
		if v, e := mem.Load(x.f, x.off, x.size); v != x.want || e != x.e {
			t.Errorf("row %d: Load at %d of %d: %v, %d, not %v, %d", k, x.off, x.size, v, e, x.want, x.e)
		}
	}
}

// A frame that may not be is told ahead of all else, wherever what is wrong lies.
func TestP6_2_NoFrame(t *testing.T) {
	for k := range 64 {
		for _, s := range noSlots() {
			var f mem.Frame
			f[8].Have = 255
			f[k] = s
			for _, off := range []int64{64, 0, 8 * int64(k), 65, 512, -1} {
				if v, e := mem.Load(f, off, 8); v != (api.Value{}) || e != errArg {
					t.Fatalf("%+v in slot %d: Load at %d: %v, %d", s, k, off, v, e)
				}
			}
		}
	}
}

func TestP6_2_ByTheChapter(t *testing.T) {
	chance := rand.New(rand.NewSource(62))
	count := map[api.Errno]int{}
	hold := func(f mem.Frame, off int64, size int) {
		v, e := mem.Load(f, off, size)
		want, told := toldLoad(f, off, size)
		if v != want || e != told {
			t.Fatalf("%+v: Load at %d of %d: %v, %d, not %v, %d", f, off, size, v, e, want, told)
		}
		count[e]++
	}
	for range 12 {
		f := anyFrame(chance)
		for off := int64(-17); off < 530; off++ {
			for _, size := range sizes {
				hold(f, off, size)
			}
			hold(f, off, pick(chance, noSizes...))
		}
		for _, off := range farOffs {
			for _, size := range slices.Concat(sizes, noSizes) {
				hold(f, off, size)
			}
		}
	}
	for range 20000 {
		f := anyFrame(chance)
		if chance.Intn(20) == 0 {
			f[chance.Intn(64)] = pick(chance, noSlots()...)
		}
		hold(f, anyPlace(chance), anySize(chance))
	}
	for _, e := range []api.Errno{0, errArg, trapBound, trapAlign, trapKind, trapEmpty} {
		if count[e] < 500 {
			t.Errorf("too few are told %d: %d", e, count[e])
		}
	}
}

func TestP6_3_Rows(t *testing.T) {
	_, three, four := chapters(t)
	top := api.Value{Kind: frame, Off: 512}
	many := n(0x1122334455667788)
	slot := func(k int, s mem.Slot) (f mem.Frame) {
		f[k] = s
		return f
	}
	var zero mem.Frame
	for k, x := range []struct {
		f    mem.Frame
		off  int64
		size int
		v    api.Value
		want mem.Frame
		e    api.Errno
	}{
		{zero, 8, 4, n(258), slot(1, mem.Slot{Have: 15, B: [8]byte{2, 1}}), 0},
		{zero, 16, 8, top, slot(2, mem.Slot{Have: 255, V: top}), 0},
		{three, 20, 4, n(7), slot(2, mem.Slot{Have: 240, B: [8]byte{4: 7}}), 0},
		{three, 16, 8, n(7), slot(2, mem.Slot{Have: 255, B: [8]byte{7}}), 0},
		{three, 23, 1, n(0), slot(2, mem.Slot{Have: 128}), 0},
		{three, 16, 8, api.Value{Kind: ctx}, slot(2, mem.Slot{Have: 255, V: api.Value{Kind: ctx}}), 0},
		{four, 16, 8, top, three, 0},
		{four, 22, 2, n(0xabcd), slot(2, mem.Slot{Have: 240, B: [8]byte{4: 7, 6: 0xcd, 7: 0xab}}), 0},
		{four, 17, 1, n(0x105), slot(2, mem.Slot{Have: 242, B: [8]byte{1: 5, 4: 7}}), 0},
		{zero, 0, 1, many, slot(0, mem.Slot{Have: 1, B: [8]byte{0x88}}), 0},
		{zero, 2, 2, many, slot(0, mem.Slot{Have: 12, B: [8]byte{2: 0x88, 3: 0x77}}), 0},
		{zero, 508, 4, many, slot(63, mem.Slot{Have: 240, B: [8]byte{4: 0x88, 5: 0x77, 6: 0x66, 7: 0x55}}), 0},
		{zero, 504, 8, many, slot(63, mem.Slot{Have: 255, B: [8]byte{0x88, 0x77, 0x66, 0x55, 0x44, 0x33, 0x22, 0x11}}), 0},
		{zero, 511, 1, many, slot(63, mem.Slot{Have: 128, B: [8]byte{7: 0x88}}), 0},
		// wrong ones, in their order
		{zero, 0, 3, n(1), zero, errArg},
		{zero, 0, 8, api.Value{Kind: maybeCell}, zero, errArg},
		{zero, 512, 8, api.Value{Kind: cell}, zero, errArg},
		{zero, 0, 16, api.Value{}, zero, errArg},
		{zero, 0, 8, api.Value{N: 1}, zero, errArg},
		{zero, 0, 8, api.Value{}, zero, trapEmpty},
		{zero, 512, 8, api.Value{}, zero, trapEmpty},
		{zero, 1, 4, api.Value{}, zero, trapEmpty},
		{zero, 512, 1, n(1), zero, trapBound},
		{zero, 512, 4, top, zero, trapBound},
		{zero, 505, 8, n(1), zero, trapBound},
		{zero, -1, 2, n(1), zero, trapBound},
		{zero, -8, 8, top, zero, trapBound},
		{zero, math.MaxInt64, 8, n(1), zero, trapBound},
		{zero, math.MinInt64, 1, n(1), zero, trapBound},
		{zero, 1, 2, n(1), zero, trapAlign},
		{zero, 1, 2, top, zero, trapAlign},
		{zero, 4, 8, top, zero, trapAlign},
		{zero, 508, 4, top, zero, trapKind},
		{zero, 1, 1, api.Value{Kind: ctx}, zero, trapKind},
		{three, 16, 2, api.Value{Kind: ref}, zero, trapKind},
	} {
		if f, e := mem.Store(x.f, x.off, x.size, x.v); f != x.want || e != x.e {
			t.Errorf("row %d: Store at %d of %d: %v, %d, not %v, %d", k, x.off, x.size, f, e, x.want, x.e)
		}
	}
}

func TestP6_3_NoFrameNoValue(t *testing.T) {
	chance := rand.New(rand.NewSource(630))
	offs := []int64{64, 0, 65, 512, -1}
	for k := range 64 {
		for _, s := range noSlots() {
			f := anyFrame(chance)
			f[k] = s
			for _, off := range append(offs, 8*int64(k)) {
				if g, e := mem.Store(f, off, 8, pick(chance, n(1), anyAddress(chance), api.Value{})); g != (mem.Frame{}) || e != errArg {
					t.Fatalf("%+v in slot %d: Store at %d: %v, %d", s, k, off, g, e)
				}
			}
		}
	}
	for _, v := range mayNots() {
		for _, off := range offs {
			for _, size := range sizes {
				if g, e := mem.Store(anyFrame(chance), off, size, v); g != (mem.Frame{}) || e != errArg {
					t.Fatalf("%+v: Store at %d of %d: %v, %d", v, off, size, g, e)
				}
			}
		}
	}
}

func TestP6_3_ByTheChapter(t *testing.T) {
	chance := rand.New(rand.NewSource(63))
	count := map[api.Errno]int{}
	hold := func(f mem.Frame, off int64, size int, v api.Value) {
		was := f
		g, e := mem.Store(f, off, size, v)
		want, told := toldStore(f, off, size, v)
		if g != want || e != told || f != was {
			t.Fatalf("%+v: Store of %v at %d of %d: %+v, %d, not %+v, %d", f, v, off, size, g, e, want, told)
		}
		count[e]++
	}
	values := func() []api.Value {
		return append(addresses(), n(anyNumber(chance)), n(chance.Uint64()), api.Value{}, anyAddress(chance))
	}
	for range 3 {
		f := anyFrame(chance)
		for off := int64(-17); off < 530; off++ {
			for _, v := range values() {
				hold(f, off, pick(chance, sizes...), v)
			}
			for _, size := range sizes {
				hold(f, off, size, n(chance.Uint64()))
			}
			hold(f, off, pick(chance, noSizes...), n(1))
		}
		for _, off := range farOffs {
			for _, size := range slices.Concat(sizes, noSizes) {
				hold(f, off, size, pick(chance, values()...))
			}
		}
	}
	for range 20000 {
		f := anyFrame(chance)
		if chance.Intn(20) == 0 {
			f[chance.Intn(64)] = pick(chance, noSlots()...)
		}
		v := pick(chance, values()...)
		if chance.Intn(20) == 0 {
			v = pick(chance, mayNots()...)
		}
		hold(f, anyPlace(chance), anySize(chance), v)
	}
	for _, e := range []api.Errno{0, errArg, trapEmpty, trapBound, trapAlign, trapKind} {
		if count[e] < 500 {
			t.Errorf("too few are told %d: %d", e, count[e])
		}
	}
}
