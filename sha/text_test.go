package sha_test

import (
	"encoding/hex"
	"fmt"
	"math/rand"
	"strings"
	"testing"

	"stockade/api"
	"stockade/sha"
)

// writesOut: that Text tells this text.
func writesOut(t *testing.T, h api.Hash, want string) {
	t.Helper()
	if s := sha.Text(h); s != want {
		t.Errorf("Text of %x: %s, not %s", h, s, want)
	}
}

// reads: that Parse tells this digest.
func reads(t *testing.T, s string, want api.Hash) {
	t.Helper()
	if h, e := sha.Parse(s); h != want || e != 0 {
		t.Errorf("Parse of %q: %x, %d; not %x", s, h, e, want)
	}
}

// unread: that Parse refuses a text.
func unread(t *testing.T, s string) {
	t.Helper()
	if h, e := sha.Parse(s); h != (api.Hash{}) || e != errForm {
		t.Errorf("Parse of %q: %x, %d; not %d", s, h, e, errForm)
	}
}

func TestP17_2_Examples(t *testing.T) {
	writesOut(t, sha.Sum(nil), ofNothing)
	writesOut(t, sha.Sum([]byte("abc")), ofAbc)
	reads(t, ofAbc, told([]byte("abc")))
	unread(t, ofAbc[1:])
	unread(t, strings.Replace(ofAbc, "a", "A", 1))
}

// Each byte of a digest with each of its values: the higher digit goes first.
func TestP17_2_Bytes(t *testing.T) {
	const low = "0123456789abcdef"
	for k := range 32 {
		for n := range 256 {
			var h api.Hash
			h[k] = byte(n)
			text := strings.Repeat("00", k) + string(low[n/16]) + string(low[n%16]) + strings.Repeat("00", 31-k)
			writesOut(t, h, text)
			reads(t, text, h)
		}
	}
	var h api.Hash
	text := ""
	for k := range h {
		h[k] = byte(7*k + 200)
		text += fmt.Sprintf("%02x", h[k])
	}
	writesOut(t, h, text)
	reads(t, text, h)
}

// Each byte that a text may have, at each of its places: 0 to 9 and a to f are digits, no other ones.
func TestP17_2_Digits(t *testing.T) {
	for k := range 64 {
		for c := range 256 {
			s := ofNothing[:k] + string([]byte{byte(c)}) + ofNothing[k+1:]
			if strings.IndexByte("0123456789abcdef", byte(c)) >= 0 {
				reads(t, s, digestOf(t, s))
			} else {
				unread(t, s)
			}
		}
	}
}

// Other lengths than 64 bytes are no digest's, whatever stands there.
func TestP17_2_Lengths(t *testing.T) {
	for n := range 300 {
		for _, one := range []string{"0", "7", "a", "f", "F", " ", "g", "\x00"} {
			s := strings.Repeat(one, n)
			if n == 64 && strings.Contains("07af", one) {
				reads(t, s, digestOf(t, s))
			} else {
				unread(t, s)
			}
		}
	}
	for _, n := range []int{1000, 64 * 64, 1 << 20} {
		unread(t, strings.Repeat("0", n))
		unread(t, strings.Repeat(ofAbc, n/64+1)+"00")
	}
}

// What is like a text, but none.
func TestP17_2_Wrong(t *testing.T) {
	unread(t, "")
	unread(t, strings.ToUpper(ofAbc))
	for _, s := range []string{"0x", "+", "-", " ", "\n", "\t", "\x00", "\ufeff", "#", "\"", "sha256:"} {
		unread(t, s+ofAbc)
		unread(t, ofAbc+s)
		unread(t, ofAbc[:32]+s+ofAbc[32:])
		unread(t, s+ofAbc[len(s):])
		unread(t, ofAbc[:64-len(s)]+s)
		unread(t, ofAbc[:31]+s+ofAbc[31+len(s):])
	}
	unread(t, strings.Repeat("\u0660", 32))      // 64 bytes, digits of another script
	unread(t, strings.Repeat("\u0660", 64))      // 64 runes
	unread(t, strings.Repeat("0", 62)+"\u00e9")  // 64 bytes, 63 runes
	unread(t, strings.Repeat("\xff", 64))        // no runes at all
	unread(t, strings.Repeat("0", 63)+"\u0131")  // 64 runes, 65 bytes
	unread(t, strings.Repeat("0", 61)+"\uff11")  // 64 bytes, a wide 1
	unread(t, strings.Repeat("0", 60)+"1e+1")    // a number, no digits
	unread(t, strings.Repeat("0", 60)+"1_00")    // as Go writes numbers
	unread(t, strings.Repeat("ba 78 16 bf ", 8)) // bytes apart
}

func TestP17_2_ByTheChapter(t *testing.T) {
	chance := rand.New(rand.NewSource(1720))
	for range 20000 {
		h := anyDigest(chance)
		text := hex.EncodeToString(h[:])
		writesOut(t, h, text)
		reads(t, text, h)
		b := []byte(text)
		b[chance.Intn(64)] = byte(chance.Intn(256))
		back, e := hex.DecodeString(string(b))
		if e != nil || string(b) != strings.ToLower(string(b)) {
			unread(t, string(b))
		} else {
			reads(t, string(b), api.Hash(back))
		}
	}
}

// A digest is an array: what is written into an answer shows in no other one.
func TestP17_2_NewMemory(t *testing.T) {
	h, _ := sha.Parse(ofAbc)
	clear(h[:])
	writesOut(t, h, strings.Repeat("0", 64))
	reads(t, ofAbc, told([]byte("abc")))
}
