package cert_test

import (
	"math/rand"
	"slices"
	"testing"

	"stockade/api"
	"stockade/cert"
	"stockade/flow"
	"stockade/state"
)

// leaves: that of some points Thin leaves just those of these numbers, in this order.
func leaves(t *testing.T, name string, l []flow.Out, want ...int) {
	t.Helper()
	thin := cert.Thin(l)
	if len(thin) != len(want) {
		t.Errorf("%s: %d points, not %d", name, len(thin), len(want))
		return
	}
	for k, n := range want {
		if thin[k] != l[n] {
			t.Errorf("%s: the point %d is not that of %d", name, k, n)
		}
	}
}

func TestP15_3_Rows(t *testing.T) {
	_, a, b := seven(t)
	none, wide, other := out(1, state.Begin()), out(1, with(state.Begin(), map[int]api.Reg{0: below(8)})), out(1, with(state.Begin(), map[int]api.Reg{0: {Kind: ctx}}))
	leaves(t, "the second one, and r0 None", []flow.Out{b, none}, 1)
	leaves(t, "turned about", []flow.Out{none, b}, 0)
	leaves(t, "nothing", nil)
	leaves(t, "nothing, not nil", []flow.Out{})
	leaves(t, "one", []flow.Out{b}, 0)
	leaves(t, "other places", []flow.Out{b, a, out(0, none.S), out(2, none.S)}, 0, 1, 3)
	leaves(t, "one in the other, up", []flow.Out{b, wide, none}, 2)
	leaves(t, "one in the other, down", []flow.Out{none, wide, b}, 0)
	leaves(t, "one in the other, about", []flow.Out{wide, none, b}, 1)
	leaves(t, "none in another one", []flow.Out{b, other, a}, 0, 1, 2)
	leaves(t, "some", []flow.Out{other, b, a, wide, b}, 0, 2, 3)
	leaves(t, "behind all", []flow.Out{b, other, a, wide, none}, 2, 4)
}

// Of points that cover one another the first one stays, also where they are not the same; none, if another one covers them all.
func TestP15_3_Alike(t *testing.T) {
	_, _, b := seven(t)
	none := out(1, state.Begin())
	leaves(t, "twice", []flow.Out{b, b}, 0)
	leaves(t, "again and again", []flow.Out{b, none, b, none, none}, 1)
	leaves(t, "many", slices.Repeat([]flow.Out{b}, 50), 0)

	bytes, number := out(1, withSlots(b.S, map[int]api.Slot{7: have(255)})), out(1, withSlots(b.S, map[int]api.Slot{7: laid(anything())}))
	leaves(t, "bytes first", []flow.Out{bytes, number}, 0)
	leaves(t, "the number first", []flow.Out{number, bytes}, 0)
	leaves(t, "again", []flow.Out{number, bytes, number, bytes}, 0)
	leaves(t, "with one more, apart", []flow.Out{out(0, b.S), number, out(2, b.S), bytes}, 0, 1, 2)
	leaves(t, "with one that covers both, behind", []flow.Out{number, bytes, b}, 2)
	leaves(t, "with one that covers both, between", []flow.Out{bytes, b, number}, 1)
	leaves(t, "with one that covers both, ahead", []flow.Out{b, bytes, number}, 0)
	leaves(t, "with one that both cover", []flow.Out{out(1, withSlots(b.S, map[int]api.Slot{7: laid(just(1))})), number, bytes}, 1)
	both := out(1, withSlots(bytes.S, map[int]api.Slot{8: laid(anything())}))
	leaves(t, "two slots", []flow.Out{both, out(1, withSlots(number.S, map[int]api.Slot{8: have(255)}))}, 0)
}

// A point whose state may not be covers none, and none covers it: it stays, as often as it comes.
func TestP15_3_MayNot(t *testing.T) {
	for _, s := range spoilt() {
		l := []flow.Out{out(1, s), out(1, state.Begin()), out(1, s), out(1, api.State{}), out(1, s)}
		leaves(t, "may not be", l, 0, 2, 3, 4)
	}
}

// Any places, and more points than a certificate may have.
func TestP15_3_AnyPlaces(t *testing.T) {
	leaves(t, "no places", []flow.Out{out(-1, state.Begin()), out(1<<63-1, state.Begin()), out(-1, api.State{}), out(-1<<63, state.Begin()), out(1<<32-1, state.Begin()), out(512, state.Begin()), out(1<<63-1, state.Begin())}, 1, 2, 3, 4, 5)
	var l []flow.Out
	for k := range most + 100 {
		l = append(l, out(k, state.Begin()), out(k, api.State{}))
	}
	thin := cert.Thin(l)
	if len(thin) != most+100 {
		t.Fatal(len(thin))
	}
	for k, p := range thin {
		if p != out(k, api.State{}) {
			t.Fatal(k)
		}
	}
}

// anyPoints: many of which are beside one that is alike, or covers it.
func anyPoints(chance *rand.Rand, n, places int) []flow.Out {
	var l []flow.Out
	for range n {
		if len(l) == 0 || chance.Intn(6) == 0 {
			l = append(l, out(chance.Intn(places), anyState(chance)))
			continue
		}
		x := pick(chance, l...)
		switch chance.Intn(5) {
		case 0:
			x.S = otherwise(chance, x.S)
		case 1:
			x.At = chance.Intn(places)
		default:
			for range chance.Intn(3) {
				x.S = loosened(chance, x.S)
			}
		}
		l = append(l, x)
	}
	return shuffled(chance, l)
}

func TestP15_3_ByTheChapter(t *testing.T) {
	chance := rand.New(rand.NewSource(1530))
	gone, stayed := 0, 0
	for range 500 {
		l := anyPoints(chance, chance.Intn(16), 1+chance.Intn(3))
		thin, want := cert.Thin(l), toldThin(l)
		if !slices.Equal(thin, want) {
			t.Fatalf("%d of %d points, not %d", len(thin), len(l), len(want))
		}
		gone, stayed = gone+len(l)-len(want), stayed+len(want)
	}
	if gone < 500 || stayed < 500 {
		t.Error(gone, stayed)
	}
}

// What is handed in is not changed, nor the room behind its end; what is written into an answer shows nowhere.
func TestP15_3_NewMemory(t *testing.T) {
	chance := rand.New(rand.NewSource(1531))
	for n := range 12 {
		room := append(anyPoints(chance, n, 2), out(0, api.State{}), out(1, api.State{}))
		l, was := room[:n], slices.Clone(room)
		thin := cert.Thin(l)
		want := slices.Clone(thin)
		clear(thin[:cap(thin)])
		if !slices.Equal(room, was) {
			t.Error("changed")
		}
		if !slices.Equal(cert.Thin(l), want) {
			t.Error("told otherwise")
		}
	}
}
