package sha_test

import (
	"bytes"
	"crypto/sha256"
	"fmt"
	"math/rand"
	"testing"

	"stockade/api"
	"stockade/sha"
)

func TestP17_1_Examples(t *testing.T) {
	for text, want := range map[string]string{
		"":    ofNothing,
		"a":   ofA,
		"abc": ofAbc,
		"abcdbcdecdefdefgefghfghighijhijkijkljklmklmnlmnomnopnopq":                                                         "248d6a61d20638b8e5c026930c3e6039a33ce45964ff2167f6ecedd419db06c1",
		"abcdefghbcdefghicdefghijdefghijkefghijklfghijklmghijklmnhijklmnoijklmnopjklmnopqklmnopqrlmnopqrsmnopqrstnopqrstu": "cf5b16a778af8380036ce59e7b0492370b249b11e8f07a51afac45037afee9d1",
	} {
		sums(t, text, []byte(text), digestOf(t, want))
	}
	sums(t, "nil", nil, digestOf(t, ofNothing))
	sums(t, "a million times a", bytes.Repeat([]byte("a"), 1000000), digestOf(t, "cdc76e5c9914fb9281a1c7e284d73e67f1809a48a497200e046d39ccc7112cd0"))
	d := begun(t, []byte("a"))
	tells(t, "a", d, digestOf(t, ofA))
	writes(t, d, []byte("bc"))
	tells(t, "abc", d, digestOf(t, ofAbc))
}

// A Digest that nothing was written into is one of no bytes; a Write of none changes nothing.
func TestP17_1_NoBytes(t *testing.T) {
	tells(t, "nothing", sha.New(), digestOf(t, ofNothing))
	for _, n := range []int{0, 1, 55, 56, 63, 64, 65, 128} {
		b := anyBytes(rand.New(rand.NewSource(1710)), n)
		d := sha.New()
		writes(t, d, nil)
		writes(t, d, b)
		writes(t, d, nil)
		writes(t, d, []byte{})
		tells(t, fmt.Sprint(n, " bytes and none"), d, told(b))
	}
}

// All lengths about each block's end, where what is put behind the bytes has room in their last block, or has not.
func TestP17_1_Lengths(t *testing.T) {
	b := anyBytes(rand.New(rand.NewSource(1711)), 1300)
	noughts, ones := make([]byte, len(b)), bytes.Repeat([]byte{255}, len(b))
	ends := bytes.Repeat([]byte{0x80}, len(b))
	for n := range len(b) + 1 {
		sums(t, fmt.Sprint(n, " bytes"), b[:n], told(b[:n]))
		sums(t, fmt.Sprint(n, " noughts"), noughts[:n], told(noughts[:n]))
		sums(t, fmt.Sprint(n, " times 255"), ones[:n], told(ones[:n]))
		sums(t, fmt.Sprint(n, " times 128"), ends[:n], told(ends[:n]))
	}
	for k := 11; k < 22; k++ {
		for _, n := range []int{1<<k - 9, 1<<k - 8, 1<<k - 1, 1 << k, 1<<k + 1} {
			b := anyBytes(rand.New(rand.NewSource(int64(k))), n)
			sums(t, fmt.Sprint(n, " bytes"), b, told(b))
		}
	}
}

// Each bit of up to three blocks by itself, and each value of a byte at each place of a block.
func TestP17_1_Bits(t *testing.T) {
	for _, n := range []int{1, 55, 56, 64, 119, 120, 192} {
		for k := range 8 * n {
			b := make([]byte, n)
			b[k/8] = 1 << (k % 8)
			sums(t, fmt.Sprint("bit ", k, " of ", n, " bytes"), b, told(b))
		}
	}
	for k := range 64 {
		for x := range 256 {
			b := bytes.Repeat([]byte{0x5a}, 64)
			b[k] = byte(x)
			sums(t, fmt.Sprint(x, " at ", k), b, told(b))
		}
	}
}

// How many bits there are goes beyond 2^32 here, so into the fifth of its eight bytes.
func TestP17_1_Many(t *testing.T) {
	part := anyBytes(rand.New(rand.NewSource(1712)), 1<<20)
	d, want := sha.New(), sha256.New()
	for range 512 {
		writes(t, d, part)
		want.Write(part)
	}
	tells(t, "2^29 bytes", d, api.Hash(want.Sum(nil)))
	writes(t, d, part[:77])
	want.Write(part[:77])
	tells(t, "2^29 + 77 bytes", d, api.Hash(want.Sum(nil)))
}

// Sum leaves the bytes as they are, wherever they end.
func TestP17_1_SumStays(t *testing.T) {
	b := anyBytes(rand.New(rand.NewSource(1713)), 400)
	for n := range 200 {
		d := begun(t, b[:n])
		tells(t, fmt.Sprint(n, " bytes"), d, told(b[:n]))
		writes(t, d, b[n:])
		tells(t, fmt.Sprint(n, " bytes and the rest"), d, told(b))
	}
}

// A copy is one of the same bytes; what is done to it, or to the one it was made of, shows in no other one.
func TestP17_1_Copy(t *testing.T) {
	b := anyBytes(rand.New(rand.NewSource(1714)), 400)
	tells(t, "a copy of nothing", sha.New().Copy(), digestOf(t, ofNothing))
	for n := range 200 {
		head, left, right := b[:n:n], b[200:200+n%70], b[300:]
		d := begun(t, head)
		c := d.Copy()
		tells(t, fmt.Sprint(n, ": the copy"), c, told(head))
		writes(t, c, left)
		tells(t, fmt.Sprint(n, ": what it was made of"), d, told(head))
		writes(t, d, right)
		tells(t, fmt.Sprint(n, ": the copy, gone on"), c, told(append(head, left...)))
		tells(t, fmt.Sprint(n, ": what it was made of, gone on"), d, told(append(head, right...)))
		again := c.Copy()
		writes(t, c, right)
		tells(t, fmt.Sprint(n, ": the copy's copy"), again, told(append(head, left...)))
		writes(t, again, right)
		tells(t, fmt.Sprint(n, ": the copy's copy, gone on"), again, told(append(append(head, left...), right...)))
	}
}

// Digests go on each by itself; none is the one of another New.
func TestP17_1_Apart(t *testing.T) {
	chance := rand.New(rand.NewSource(1715))
	l, wrote := make([]*sha.Digest, 9), make([][]byte, 9)
	for k := range l {
		l[k] = sha.New()
	}
	for range 600 {
		k, b := chance.Intn(9), anyBytes(chance, chance.Intn(100))
		writes(t, l[k], b)
		wrote[k] = append(wrote[k], b...)
		k = chance.Intn(9)
		tells(t, fmt.Sprint("Digest ", k), l[k], told(wrote[k]))
		sums(t, "others", b, told(b))
	}
}

// A Digest that New did not make, and none, answer ErrNil and zeros, again and again.
func TestP17_1_NotMade(t *testing.T) {
	var none *sha.Digest
	for name, d := range map[string]*sha.Digest{"nil": none, "a literal": {}, "new": new(sha.Digest)} {
		for range 2 {
			if h, e := d.Sum(); h != (api.Hash{}) || e != errNil {
				t.Error(name, h, e)
			}
			if d.Copy() != nil {
				t.Error(name, "has a copy")
			}
			for _, b := range [][]byte{nil, {}, {1}, make([]byte, 64), make([]byte, 200)} {
				if e := d.Write(b); e != errNil {
					t.Error(name, len(b), e)
				}
			}
		}
	}
	if h, e := none.Copy().Sum(); h != (api.Hash{}) || e != errNil {
		t.Error(h, e)
	}
}

// What is handed in is not changed, nor the room behind its end, and not kept; what is written into an answer shows nowhere.
func TestP17_1_NewMemory(t *testing.T) {
	room := anyBytes(rand.New(rand.NewSource(1716)), 300)
	was := bytes.Clone(room)
	for n := range 200 {
		d := begun(t, room[:n])
		h, _ := d.Sum()
		if g := sha.Sum(room[:n]); h != g || !bytes.Equal(room, was) {
			t.Fatal(n, h, g)
		}
		clear(room)
		clear(h[:])
		tells(t, fmt.Sprint(n, " bytes, written over"), d, told(was[:n]))
		writes(t, d, was[n:])
		tells(t, fmt.Sprint(n, " bytes, written over, and the rest"), d, told(was))
		copy(room, was)
	}
}
