package cert_test

import (
	"bytes"
	"fmt"
	"math/rand"
	"slices"
	"testing"

	"stockade/api"
	"stockade/cert"
	"stockade/flow"
	"stockade/state"
	"stockade/verify"
	"stockade/vm"
)

// harmless: that a program that has a certificate never traps: its runs end by an Exit, or go on. Whether it has that one.
func harmless(t *testing.T, chance *rand.Rand, img api.Image, l []flow.Out, runs int) bool {
	t.Helper()
	if _, e := cert.Check(img, l); e != 0 {
		return false
	}
	if x, is := traps(t, chance, img, runs); is {
		t.Fatalf("%+v has a certificate of %d points, but traps by %d at %d", img.Code, len(l), x.Trap, x.At)
	}
	return true
}

// Programs with loops and without, such as trap among them; points from all that comes of Begin, some of them gone, more, or changed.
func TestP15_6_Harmless(t *testing.T) {
	chance := rand.New(rand.NewSource(1560))
	count := map[string]int{}
	for range 600 {
		loops, wrong := chance.Intn(2) == 0, chance.Intn(2) == 0
		img := program(t, chance, 1+chance.Intn(6), loops, wrong)
		l := proof(img, pick(chance, 1, 1, 3))
		if harmless(t, chance, img, l, 5) {
			count[fmt.Sprint("loops ", loops)]++
		} else if _, is := traps(t, chance, img, 3); is {
			count["traps"]++
		}
		for range 4 {
			m, n := changed(chance, img, l)
			if harmless(t, chance, m, n, 3) {
				count["changed"]++
			}
		}
	}
	if count["loops true"] < 100 || count["loops false"] < 100 || count["traps"] < 60 || count["changed"] < 300 {
		t.Error(count)
	}
}

// Programs that trap, and points that say that they do not: none of them is a certificate.
func TestP15_6_Lies(t *testing.T) {
	chance := rand.New(rand.NewSource(1561))
	n := 0
	for range 500 {
		img := program(t, chance, chance.Intn(4), chance.Intn(3) == 0, true)
		x, is := traps(t, chance, img, 6)
		if !is {
			continue
		}
		n++
		l := proof(img, 2)
		for _, lie := range lies(chance, img, l, x.At) {
			if at, e := cert.Check(img, lie); e == 0 {
				t.Fatalf("%+v traps by %d at %d, but has a certificate of %d points (%d)", img.Code, x.Trap, x.At, len(lie), at)
			}
		}
	}
	if n < 100 {
		t.Error("too few that trap: ", n)
	}
}

// lies: points of which each one hides where a program traps.
func lies(chance *rand.Rand, img api.Image, l []flow.Out, at int) [][]flow.Out {
	var goes, stays, less []flow.Out // those without a reason; without the place; with more known there
	for _, p := range l {
		if _, e := flow.Step(img, p.At, p.S); e == 0 {
			goes = append(goes, p)
		}
		if p.At != at {
			stays = append(stays, p)
			less = append(less, p)
			continue
		}
		for range 20 {
			q := out(at, otherwise(chance, withPacket(p.S, longest)))
			if _, e := flow.Step(img, q.At, q.S); e == 0 {
				less = append(less, q)
				break
			}
		}
	}
	return [][]flow.Out{nil, l, goes, stays, less, {begins()}, slices.DeleteFunc(slices.Clone(goes), func(p flow.Out) bool { return p.At == 0 })}
}

// By hand: a program that traps with some packet, and points each of which is right, but for one that somebody made up.
func TestP15_6_ByHand(t *testing.T) {
	img := image(t, "load64 r6, r1+8\nload8 r0, r6+0\nexit\n")
	if x, e := vm.Exec(img, tables(t, rand.New(rand.NewSource(1)), img), nil, vm.World{}, 9); e != 0 || x.Trap != trapBound {
		t.Fatal(x, e)
	}
	at6 := with(state.Begin(), map[int]api.Reg{6: {Kind: pkt}})
	last := with(at6, map[int]api.Reg{0: below(8)})
	a, b, c := begins(), out(1, at6), out(2, last)
	longB, longC := out(1, withPacket(at6, 1)), out(2, withPacket(last, 1))
	for k, l := range [][]flow.Out{nil, {a}, {a, b}, {a, b, c}, {a, c}, {b, c}, {c}, {a, longB, longC}, {a, longB, c}, {longB, longC}, {out(0, withPacket(a.S, 1)), longB, longC}, {a, c, longC}, {a, out(1, with(last, nil)), c}, {a, out(1, with(at6, map[int]api.Reg{6: {Kind: ctx}})), c}} {
		if n, e := cert.Check(img, l); e == 0 {
			t.Error(k, n)
		}
	}
	looks := image(t, "load64 r6, r1+8\nload32 r2, r1+0\nmov64 r0, 0\njlt64 r2, 1, +1\nload8 r0, r6+0\nexit\n")
	if !harmless(t, rand.New(rand.NewSource(1562)), looks, proof(looks, 2), 40) {
		t.Error("no certificate")
	}
}

// Programs of which just one way traps, be it at the next place or at the target: points of the other way alone are no certificate.
func TestP15_6_OneWay(t *testing.T) {
	chance := rand.New(rand.NewSource(1564))
	for text, from := range map[string][2]int{
		"load32 r2, r1+0\nmov64 r0, 0\njgt64 r2, 20, +1\nexit\nmov64 r0, r1\nexit\n":                     {4, 6},
		"load32 r2, r1+0\nmov64 r0, 0\njgt64 r2, 20, +2\nmov64 r0, r1\nexit\nexit\n":                     {3, 5},
		"load32 r2, r1+4\nmov64 r0, 0\njset64 r2, 1, +2\nload8 r0, r10-8\nexit\nexit\n":                  {3, 5},
		"call 7\njeq64 r0, 0, +1\ngoto +1\nload8 r0, r10-8\nexit\n":                                      {3, 4},
		"load32 r2, r1+0\nload64 r6, r1+8\nmov64 r0, 0\njgt64 r2, 20, +1\nload8 r0, r6+20\nexit\n":       {4, 5},
		"load32 r2, r1+0\nload64 r6, r1+8\nmov64 r0, 0\njlt64 r2, 20, +1\nexit\nload8 r0, r6+19\nexit\n": {5, 7},
	} {
		img := image(t, text)
		if _, is := traps(t, chance, img, 60); !is {
			t.Errorf("%q does not trap", text)
		}
		l := slices.DeleteFunc(proof(img, 8), func(p flow.Out) bool { return p.At >= from[0] && p.At < from[1] })
		for _, l := range [][]flow.Out{l, shuffled(chance, l), cert.Thin(l)} {
			if n, e := cert.Check(img, l); e != errNone {
				t.Errorf("%q: %d, %d", text, n, e)
			}
		}
	}
}

// Loops that go through the packet, the stack and a table; they end, or go on.
func TestP15_6_Loops(t *testing.T) {
	chance := rand.New(rand.NewSource(1563))
	for _, text := range []string{
		"goto -1\nexit\n",
		"mov64 r0, 0\nadd64 r0, 1\njlt64 r0, 10, -2\nexit\n",
		"mov64 r9, r1\ncall 7\njne64 r0, 0, -2\nexit\n",
		"load64 r6, r1+8\nload32 r7, r1+0\nmov64 r0, 0\nmov64 r3, 0\njge64 r3, 30, +7\njlt64 r7, 32, +6\nmov64 r4, r6\nand64 r3, 31\nadd64 r4, r3\nload8 r5, r4+0\nadd64 r3, 1\njlt64 r3, 30, -6\nexit\n",
		"put64 r10-8, 0\nload64 r3, r10-8\nadd64 r3, 5\nstore64 r10-8, r3\nmov64 r0, r3\njset64 r3, 64, +1\ngoto -6\nexit\n",
		"mov64 r9, r1\nput64 r10-16, 0\nput64 r10-8, 0\nmov64 r2, r10\nadd64 r2, -16\nmap r1, 0\ncall 1\njeq64 r0, 0, +3\nload64 r3, r0+0\nadd64 r3, 1\nstore64 r0+0, r3\ncall 5\njne64 r0, 0, -12\nexit\n",
	} {
		img := image(t, text)
		if !harmless(t, chance, img, proof(img, 1), 30) {
			t.Errorf("%q has no certificate", text)
		}
		if _, e := verify.Run(img); e != api.ErrLoop {
			t.Errorf("%q: %d", text, e)
		}
	}
}

// certified: that points are a certificate.
func certified(t *testing.T, img api.Image, l []flow.Out) {
	t.Helper()
	if n, e := cert.Check(img, l); n != 0 || e != 0 {
		t.Fatalf("%+v and %d points: %d, %d", img.Code, len(l), n, e)
	}
}

// What the verifier tells is a certificate, in any order, and what Thin leaves of it.
func TestP15_7_Verified(t *testing.T) {
	chance := rand.New(rand.NewSource(1570))
	n, less := 0, 0
	for range 700 {
		img := program(t, chance, chance.Intn(8), false, chance.Intn(4) == 0)
		r, e := verify.Run(img)
		if e != 0 {
			continue
		}
		n++
		certified(t, img, r.Points)
		thin := cert.Thin(r.Points)
		certified(t, img, thin)
		for range 3 {
			l := shuffled(chance, r.Points)
			certified(t, img, l)
			certified(t, img, cert.Thin(l))
			certified(t, img, shuffled(chance, thin))
		}
		if less += len(r.Points) - len(thin); len(thin) > len(r.Points) {
			t.Fatal("more")
		}
	}
	if n < 400 || less < 20 {
		t.Error(n, less)
	}
}

// orders hands on some points in all orders that there are.
func orders(l []flow.Out, f func(l []flow.Out)) {
	var from func(k int)
	l = slices.Clone(l)
	from = func(k int) {
		if k == len(l) {
			f(l)
		}
		for j := k; j < len(l); j++ {
			l[k], l[j] = l[j], l[k]
			from(k + 1)
			l[k], l[j] = l[j], l[k]
		}
	}
	from(0)
}

func TestP15_7_AllOrders(t *testing.T) {
	for _, text := range []string{"mov64 r0, 7\nexit\n", "const r0, 7\nexit\n", "call 7\njeq64 r0, 3, +1\nmov64 r0, 4\nexit\n", "load32 r0, r1+0\nload64 r6, r1+8\njlt64 r0, 1, +1\nload8 r0, r6+0\nexit\n"} {
		img := image(t, text)
		r, e := verify.Run(img)
		if e != 0 {
			t.Fatal(text, e)
		}
		n := 0
		orders(r.Points, func(l []flow.Out) {
			certified(t, img, l)
			certified(t, img, cert.Thin(l))
			n++
		})
		if n < 2 {
			t.Error(text, n)
		}
	}
}

// The programs whose points are as many as the verifier keeps: 32 at a place, 1024 in all.
func TestP15_7_Many(t *testing.T) {
	text := "call 5\nmov64 r6, r0\nmov64 r7, 0\n"
	for range 5 {
		text += "lsh64 r7, 1\njset64 r6, r6, +1\nadd64 r7, 1\n"
	}
	for range 20 {
		text += "mov64 r8, 1\n"
	}
	img := image(t, text+"mov64 r0, r7\nexit\n")
	r, e := verify.Run(img)
	if e != 0 || len(r.Points) < 700 {
		t.Fatal(e, len(r.Points))
	}
	slices.Reverse(r.Points)
	certified(t, img, r.Points)
	certified(t, img, cert.Thin(r.Points))
}

// Of a certificate, also of one with a loop, with points that are not needed or that tell less, Thin leaves one.
func TestP15_7_Thin(t *testing.T) {
	chance := rand.New(rand.NewSource(1571))
	less, loops := 0, 0
	for range 500 {
		looped := chance.Intn(2) == 0
		img := program(t, chance, chance.Intn(6), looped, false)
		l := proof(img, pick(chance, 1, 2, 4))
		for range chance.Intn(12) {
			x := pick(chance, l...)
			x.S = pick(chance, loosened(chance, x.S), otherwise(chance, x.S), x.S)
			if _, e := cert.Check(img, append(slices.Clone(l), x)); e == 0 {
				l = slices.Insert(l, chance.Intn(len(l)+1), x)
			}
		}
		if _, e := cert.Check(img, l); e != 0 {
			continue
		}
		thin := cert.Thin(l)
		certified(t, img, thin)
		certified(t, img, cert.Thin(shuffled(chance, l)))
		if less += len(l) - len(thin); looped {
			loops++
		}
	}
	if less < 300 || loops < 100 {
		t.Error(less, loops)
	}
}

// What Thin leaves covers all, and none of it another one; a second time nothing goes.
func TestP15_8_Thin(t *testing.T) {
	chance := rand.New(rand.NewSource(1580))
	gone := 0
	for range 400 {
		l := slices.DeleteFunc(anyPoints(chance, chance.Intn(20), 1+chance.Intn(2)), func(p flow.Out) bool { return !state.May(p.S) })
		thin := cert.Thin(l)
		gone += len(l) - len(thin)
		for _, p := range l {
			if !slices.ContainsFunc(thin, func(q flow.Out) bool { return cert.Covers(q, p) }) {
				t.Fatalf("nobody covers %+v", p)
			}
		}
		for k, p := range thin {
			for j, q := range thin {
				if j != k && cert.Covers(p, q) {
					t.Fatalf("%+v covers %+v", p, q)
				}
			}
			if !slices.Contains(l, p) {
				t.Fatalf("%+v was not there", p)
			}
		}
		if !slices.Equal(cert.Thin(thin), thin) {
			t.Fatal("something went the second time")
		}
	}
	if gone < 500 {
		t.Error(gone)
	}
}

// There and back: lists that can be packed.
func TestP15_8_Lists(t *testing.T) {
	chance := rand.New(rand.NewSource(1581))
	for k := range 600 {
		l := goodPoints(chance, chance.Intn(6))
		if k%50 == 0 {
			l = slices.Repeat(append(l, begins()), pick(chance, 1, 100, most/(len(l)+1)))
		}
		b, e := cert.Pack(l)
		if e != 0 {
			t.Fatalf("%+v: %d", l, e)
		}
		back, e := cert.Unpack(b)
		if e != 0 || !slices.Equal(back, l) {
			t.Fatalf("%+v: %d points, %d", l, len(back), e)
		}
	}
}

// Each thing that may be known, in each of its places.
func TestP15_8_Regs(t *testing.T) {
	for _, r := range goodRegs() {
		for k := range 64 {
			l := []flow.Out{out(k, with(state.Begin(), map[int]api.Reg{k % 11: r})), out(511-k, withSlots(state.Begin(), map[int]api.Slot{k: laid(r)}))}
			if r.Kind == none {
				l[1].S.Stack[k] = have(byte(k * 5))
			}
			b, e := cert.Pack(l)
			back, f := cert.Unpack(b)
			if e != 0 || f != 0 || !slices.Equal(back, l) {
				t.Fatalf("%+v: %d, %d", r, e, f)
			}
		}
	}
}

// Back and there: bytes that can be read, also where something in them was changed.
func TestP15_8_Bytes(t *testing.T) {
	chance := rand.New(rand.NewSource(1582))
	read := 0
	for range 1500 {
		b := toldForm(goodPoints(chance, chance.Intn(4)))
		for range 6 {
			l, e := cert.Unpack(b)
			if e == 0 {
				read++
				again, e := cert.Pack(l)
				if e != 0 || !bytes.Equal(again, b) {
					t.Fatalf("%x, and %x, %d", b, again, e)
				}
			}
			d := damaged(chance, b)
			if _, e := cert.Unpack(d); e == 0 || chance.Intn(4) == 0 {
				b = d
			}
		}
	}
	if read < 2500 {
		t.Error(read)
	}
}

// Certificates go there and back, and are certificates still.
func TestP15_8_Certificates(t *testing.T) {
	chance := rand.New(rand.NewSource(1583))
	for range 150 {
		img := program(t, chance, chance.Intn(6), chance.Intn(2) == 0, false)
		l := proof(img, 1)
		if _, e := cert.Check(img, l); e != 0 {
			continue
		}
		b, e := cert.Pack(l)
		back, f := cert.Unpack(b)
		if e != 0 || f != 0 || !slices.Equal(l, back) {
			t.Fatalf("%+v: %d, %d", img, e, f)
		}
		certified(t, img, back)
	}
}
