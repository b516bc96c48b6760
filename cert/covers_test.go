package cert_test

import (
	"math/rand"
	"testing"

	"stockade/api"
	"stockade/cert"
	"stockade/state"
)

func TestP15_1_Rows(t *testing.T) {
	begin, len3, maybe1 := state.Begin(), lenOf(both(3, 0, 3, 3)), reg(maybeCell, 1, 0, 0)
	r0 := func(r api.Reg) api.State { return with(begin, map[int]api.Reg{0: r}) }
	slot := func(x api.Slot) api.State { return withSlots(begin, map[int]api.Slot{63: x}) }
	for k, x := range []struct {
		a, b         api.State
		there, again bool // a covers b, b covers a
	}{
		{begin, begin, true, true}, {api.State{}, api.State{}, true, true}, {api.State{}, begin, true, false},
		{r0(api.Reg{}), r0(just(7)), true, false}, {r0(below(8)), r0(just(7)), true, false}, {r0(below(8)), r0(just(256)), false, false}, {r0(numOf(both(0, 3, 0, 3))), r0(numOf(both(2, 3, 2, 5))), false, false}, {r0(just(3)), r0(len3), true, false}, {r0(len3), r0(len3), true, true},
		{r0(maybe1), r0(just(0)), true, false}, {r0(maybe1), r0(reg(cell, 1, 0, 0)), true, false}, {r0(maybe1), r0(reg(cell, 2, 0, 0)), false, false}, {r0(reg(pkt, 0, 0, 9)), r0(reg(pkt, 0, 3, 4)), true, false}, {r0(reg(ref, 1, 0, 0)), r0(reg(ref, 2, 0, 0)), false, false}, {r0(api.Reg{Kind: ctx}), r0(just(0)), false, false},
		{withPacket(begin, 14), withPacket(begin, 15), true, false}, {begin, withPacket(begin, longest), true, false}, {withPacket(begin, 14), r0(just(1)), false, false},
		{slot(have(3)), slot(have(15)), true, false}, {slot(have(3)), slot(have(12)), false, false}, {slot(have(255)), slot(laid(just(7))), true, false}, {slot(have(255)), slot(laid(anything())), true, true}, {slot(have(0)), slot(laid(reg(frame, 0, 512, 512))), true, false}, {slot(have(1)), slot(laid(reg(frame, 0, 512, 512))), false, false},
	} {
		for _, at := range []int{0, 1, 511} {
			if cert.Covers(out(at, x.a), out(at, x.b)) != x.there || cert.Covers(out(at, x.b), out(at, x.a)) != x.again {
				t.Errorf("row %d at %d", k, at)
			}
			if cert.Covers(out(at, x.a), out(at+1, x.b)) || cert.Covers(out(at+1, x.a), out(at, x.b)) {
				t.Errorf("row %d at %d and beside it", k, at)
			}
		}
	}
}

// A place may be any number: it is the same one, or not.
func TestP15_1_AnyPlaces(t *testing.T) {
	l := []int{-1 << 63, -1<<63 + 1, -1 << 32, -2, -1, 0, 1, 2, 511, 512, 513, 65536, 1 << 32, 1<<32 + 1, 1<<63 - 2, 1<<63 - 1}
	for _, a := range l {
		for _, b := range l {
			if cert.Covers(out(a, api.State{}), out(b, state.Begin())) != (a == b) {
				t.Error(a, b)
			}
		}
	}
}

// A state that may not be is in none, and none is in it.
func TestP15_1_MayNot(t *testing.T) {
	for k, s := range spoilt() {
		if cert.Covers(out(1, s), out(1, s)) || cert.Covers(out(1, api.State{}), out(1, s)) || cert.Covers(out(1, s), out(1, withPacket(state.Begin(), longest))) {
			t.Errorf("%d: %+v", k, s)
		}
	}
}

func TestP15_1_ByTheChapter(t *testing.T) {
	chance := rand.New(rand.NewSource(1510))
	count := map[bool]int{}
	for range 4000 {
		a := out(chance.Intn(2), anyState(chance))
		b := out(chance.Intn(2), otherwise(chance, a.S))
		for range chance.Intn(3) {
			b.S = loosened(chance, b.S)
		}
		if cert.Covers(a, b) != toldCovers(a, b) || cert.Covers(b, a) != toldCovers(b, a) {
			t.Fatalf("%+v, %+v", a, b)
		}
		count[toldCovers(b, a)]++
	}
	if count[true] < 800 || count[false] < 800 {
		t.Error(count)
	}
}
