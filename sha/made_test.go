package sha_test

import (
	"crypto/sha256"
	"math/rand"
	"testing"

	"stockade/api"
	"stockade/sha"
)

const (
	errNil  = 2
	errForm = 5

	ofNothing = "e3b0c44298fc1c149afbf4c8996fb92427ae41e4649b934ca495991b7852b855"
	ofA       = "ca978112ca1bbdcafac231b39a23dc4da786eff8147c4e72b9807785afee48bb"
	ofAbc     = "ba7816bf8f01cfea414140de5dae2223b00361a396177a9cb410ff61f20015ad"
)

// told: the digest of some bytes, as FIPS 180-4 is told elsewhere.
func told(b []byte) api.Hash { return sha256.Sum256(b) }

// digestOf: the digest whose digits stand in a text, whatever Parse says.
func digestOf(t *testing.T, text string) api.Hash {
	t.Helper()
	var h api.Hash
	if len(text) != 64 {
		t.Fatal(text)
	}
	for k := range text {
		n := byte(0)
		switch c := text[k]; {
		case c >= '0' && c <= '9':
			n = c - '0'
		case c >= 'a' && c <= 'f':
			n = c - 'a' + 10
		default:
			t.Fatal(text)
		}
		h[k/2] += n << (4 - 4*(k%2))
	}
	return h
}

// sums: that Sum, and a Digest into which the bytes were written at once, tell this digest.
func sums(t *testing.T, name string, b []byte, want api.Hash) {
	t.Helper()
	if h := sha.Sum(b); h != want {
		t.Errorf("Sum of %s: %x, not %x", name, h, want)
	}
	tells(t, name, begun(t, b), want)
}

// tells: that a Digest tells this digest, also when it is asked again.
func tells(t *testing.T, name string, d *sha.Digest, want api.Hash) {
	t.Helper()
	for range 2 {
		if h, e := d.Sum(); h != want || e != 0 {
			t.Errorf("a Digest of %s: %x, %d; not %x", name, h, e, want)
		}
	}
}

// writes: that a Digest takes the bytes.
func writes(t *testing.T, d *sha.Digest, b []byte) {
	t.Helper()
	if e := d.Write(b); e != 0 {
		t.Errorf("a Write of %d bytes: %d", len(b), e)
	}
}

// begun: a Digest of these bytes.
func begun(t *testing.T, b []byte) *sha.Digest {
	t.Helper()
	d := sha.New()
	writes(t, d, b)
	return d
}

// anyBytes: so many of them.
func anyBytes(chance *rand.Rand, n int) []byte {
	b := make([]byte, n)
	chance.Read(b)
	return b
}

// anyDigest: one of any bytes, often the least and the greatest.
func anyDigest(chance *rand.Rand) api.Hash {
	var h api.Hash
	for k := range h {
		h[k] = [...]byte{0, 255, 15, 240, 9, 10, 160, byte(chance.Intn(256)), byte(chance.Intn(256))}[chance.Intn(9)]
	}
	return h
}
