package insn_test

import (
	"bytes"
	"testing"

	"stockade/api"
	"stockade/insn"
)

func TestP2_6_EncodeOfDecode(t *testing.T) {
	eachEight(func(b []byte) {
		i, e := insn.Decode(b)
		c, f := insn.Encode(i)
		if e != api.OK || f != api.OK || !bytes.Equal(b, c) {
			t.Fatalf("% x: %+v, %d, % x, %d", b, i, e, c, f)
		}
	})
}

func TestP2_6_DecodeOfEncode(t *testing.T) {
	each(func(i api.Insn) {
		b, e := insn.Encode(i)
		if e != api.OK {
			return
		}
		if j, f := insn.Decode(b); j != i || f != api.OK {
			t.Fatalf("%+v: % x, %+v, %d", i, b, j, f)
		}
	})
}

func TestP2_7_MakeOfOf(t *testing.T) {
	each(func(i api.Insn) {
		w, e := insn.Of(i)
		if e != api.OK {
			return
		}
		if j, f := insn.Make(w, i); j != i || f != api.OK {
			t.Fatalf("Make(%+v, %+v): %+v, %d", w, i, j, f)
		}
	})
}

func TestP2_7_OfOfMake(t *testing.T) {
	count := 0
	whats(func(w insn.What) {
		for _, i := range []api.Insn{{}, {Dst: 9}, {Dst: 9, Src: 10}, {Off: -3}, {Imm: 7}, {Dst: 10, Src: 3, Off: 5}} {
			j, e := insn.Make(w, i)
			if e != api.OK {
				continue
			}
			count++
			if v, f := insn.Of(j); v != w || f != api.OK {
				t.Fatalf("Make(%+v, %+v): %+v, which is %+v, %d", w, i, j, v, f)
			}
		}
	})
	if count == 0 {
		t.Fatal("Make makes nothing")
	}
}

func TestP2_7_HowManyOps(t *testing.T) {
	ops := map[byte]bool{}
	each(func(i api.Insn) {
		if _, e := insn.Of(i); e == api.OK {
			ops[i.Op] = true
		}
	})
	if len(ops) != 111 {
		t.Error(len(ops))
	}
}

// Make has no choice: no two Ops are the same thing.
func TestP2_7_OneOpForEachWhat(t *testing.T) {
	op := map[insn.What]byte{}
	each(func(i api.Insn) {
		w, e := insn.Of(i)
		if e != api.OK {
			return
		}
		if o, is := op[w]; is && o != i.Op {
			t.Fatalf("%+v is %x and %x", w, o, i.Op)
		}
		op[w] = i.Op
	})
	// a Swap has three sizes, an Op 18 is a Const or a Ref: three more than Ops
	if len(op) != 114 {
		t.Error(len(op))
	}
}
