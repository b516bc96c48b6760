package sha_test

import (
	"encoding/hex"
	"fmt"
	"math/rand"
	"testing"

	"stockade/sha"
)

// inParts: that the digest of parts is that of all at once.
func inParts(t *testing.T, parts ...[]byte) {
	t.Helper()
	d := sha.New()
	var all []byte
	name := "parts of"
	for _, p := range parts {
		writes(t, d, p)
		all = append(all, p...)
		name += fmt.Sprint(" ", len(p))
	}
	h, e := d.Sum()
	if h != sha.Sum(all) || h != told(all) || e != 0 {
		t.Fatalf("%s: %x, %d", name, h, e)
	}
}

func TestP17_3_TwoParts(t *testing.T) {
	b := anyBytes(rand.New(rand.NewSource(1730)), 260)
	for n := range len(b) + 1 {
		for k := range n + 1 {
			inParts(t, b[:k], b[k:n])
		}
	}
}

// Cuts at and beside each end of a block.
func TestP17_3_ThreeParts(t *testing.T) {
	b := anyBytes(rand.New(rand.NewSource(1731)), 330)
	cuts := []int{0, 1, 2, 55, 56, 57, 62, 63, 64, 65, 66, 119, 120, 127, 128, 129, 191, 192, 193, 255, 256, 257, 320}
	for i, k := range cuts {
		for j, m := range cuts[i:] {
			for _, n := range cuts[i+j:] {
				inParts(t, b[:k], b[k:m], b[m:n])
			}
		}
	}
}

// Parts all alike, from one byte each on.
func TestP17_3_EvenParts(t *testing.T) {
	b := anyBytes(rand.New(rand.NewSource(1732)), 700)
	for size := 1; size <= 200; size++ {
		var parts [][]byte
		for k := 0; k < len(b); k += size {
			parts = append(parts, b[k:min(k+size, len(b))])
		}
		inParts(t, parts...)
	}
}

// Whenever Sum, or a Copy, is asked, and into whichever of the copies is written.
func TestP17_3_ByChance(t *testing.T) {
	chance := rand.New(rand.NewSource(1733))
	for n := range 400 {
		d := sha.New()
		var all []byte
		for range chance.Intn(40) {
			b := anyBytes(chance, chance.Intn([]int{3, 70, 70, 200, 1000}[chance.Intn(5)]))
			switch chance.Intn(4) {
			case 0:
				tells(t, fmt.Sprint(n), d, told(all))
			case 1:
				was := d
				d = d.Copy()
				writes(t, was, b)
			case 2:
				writes(t, d.Copy(), b)
			}
			writes(t, d, b)
			all = append(all, b...)
		}
		tells(t, fmt.Sprint(n), d, told(all))
		if h, e := d.Sum(); h != sha.Sum(all) || e != 0 {
			t.Fatal(n, len(all), e)
		}
	}
}

func TestP17_3_ParseOfText(t *testing.T) {
	chance := rand.New(rand.NewSource(1734))
	for n := range 20000 {
		h := anyDigest(chance)
		if n%2 == 0 {
			h = sha.Sum(anyBytes(chance, n%200))
		}
		if back, e := sha.Parse(sha.Text(h)); back != h || e != 0 {
			t.Fatalf("%x: %x, %d", h, back, e)
		}
	}
}

// Whatever text Parse takes is the Text of what it tells of it.
func TestP17_3_TextOfParse(t *testing.T) {
	chance := rand.New(rand.NewSource(1735))
	taken := 0
	for range 40000 {
		h := anyDigest(chance)
		b := []byte(hex.EncodeToString(h[:]))
		for range chance.Intn(3) {
			b[chance.Intn(64)] = "0123456789abcdefABCDEFgG /:@`"[chance.Intn(29)]
		}
		h, e := sha.Parse(string(b))
		if e != 0 {
			continue
		}
		taken++
		if s := sha.Text(h); s != string(b) {
			t.Fatalf("%s: %s", b, s)
		}
	}
	if taken < 20000 {
		t.Error("too few are left: ", taken)
	}
}
