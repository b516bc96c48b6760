package sha

import (
	"math/bits"

	"stockade/api"
)

// block is how many bytes are taken at once.
const block = 64

// turns are K0 to K63: each turn adds its own.
var turns = [64]uint32{
	0x428a2f98, 0x71374491, 0xb5c0fbcf, 0xe9b5dba5, 0x3956c25b, 0x59f111f1, 0x923f82a4, 0xab1c5ed5,
	0xd807aa98, 0x12835b01, 0x243185be, 0x550c7dc3, 0x72be5d74, 0x80deb1fe, 0x9bdc06a7, 0xc19bf174,
	0xe49b69c1, 0xefbe4786, 0x0fc19dc6, 0x240ca1cc, 0x2de92c6f, 0x4a7484aa, 0x5cb0a9dc, 0x76f988da,
	0x983e5152, 0xa831c66d, 0xb00327c8, 0xbf597fc7, 0xc6e00bf3, 0xd5a79147, 0x06ca6351, 0x14292967,
	0x27b70a85, 0x2e1b2138, 0x4d2c6dfc, 0x53380d13, 0x650a7354, 0x766a0abb, 0x81c2c92e, 0x92722c85,
	0xa2bfe8a1, 0xa81a664b, 0xc24b8b70, 0xc76c51a3, 0xd192e819, 0xd6990624, 0xf40e3585, 0x106aa070,
	0x19a4c116, 0x1e376c08, 0x2748774c, 0x34b0bcb5, 0x391c0cb3, 0x4ed8aa4a, 0x5b9cca4f, 0x682e6ff3,
	0x748f82ee, 0x78a5636f, 0x84c87814, 0x8cc70208, 0x90befffa, 0xa4506ceb, 0xbef9a3f7, 0xc67178f2,
}

// isMade answers whether a call made the Digest.
func (d *Digest) isMade() bool { return d != nil && d.made }

// put puts bytes behind those that are there.
func (d *Digest) put(b []byte) {
	for len(b) > 0 {
		n := copy(d.part[d.size%block:], b)
		b = b[n:]
		d.size += uint64(n)
		if d.size%block == 0 {
			d.sums = mixed(d.sums, d.part)
		}
	}
}

// ended tells the digest; the bytes have their end behind them then.
func (d *Digest) ended() api.Hash {
	count := 8 * d.size
	end := []byte{0x80}
	for (d.size+uint64(len(end))+8)%block != 0 {
		end = append(end, 0)
	}
	for shift := 56; shift >= 0; shift -= 8 {
		end = append(end, byte(count>>shift))
	}
	d.put(end)
	var h api.Hash
	for k := range h {
		h[k] = byte(d.sums[k/4] >> (24 - k%4*8))
	}
	return h
}

// mixed answers what a block makes of H0 to H7.
func mixed(sums [8]uint32, part [block]byte) [8]uint32 {
	added := adder(part)
	a, b, c, d, e, f, g, h := sums[0], sums[1], sums[2], sums[3], sums[4], sums[5], sums[6], sums[7]
	for range turns {
		x := h + bigS1(e) + (e&f ^ ^e&g) + added()
		y := bigS0(a) + (a&b ^ a&c ^ b&c)
		h, g, f, e, d, c, b, a = g, f, e, d+x, c, b, a, x+y
	}
	for k, n := range [8]uint32{a, b, c, d, e, f, g, h} {
		sums[k] += n
	}
	return sums
}

// adder hands out what answers, turn by turn, the Kt + Wt that is added then. Of the words no more are kept than a later one is made of: Wt stands where W(t-16) stood.
func adder(part [block]byte) func() uint32 {
	var words [16]uint32
	for k, x := range part {
		words[k/4] = words[k/4]<<8 | uint32(x)
	}
	t := 0
	return func() uint32 {
		if t >= 16 {
			words[t%16] += smallS1(words[(t-2)%16]) + words[(t-7)%16] + smallS0(words[(t-15)%16])
		}
		n := turns[t] + words[t%16]
		t++
		return n
	}
}

// turned answers x turned right by n.
func turned(x uint32, n int) uint32 { return bits.RotateLeft32(x, -n) }

func bigS0(x uint32) uint32 { return turned(x, 2) ^ turned(x, 13) ^ turned(x, 22) }
func bigS1(x uint32) uint32 { return turned(x, 6) ^ turned(x, 11) ^ turned(x, 25) }

func smallS0(x uint32) uint32 { return turned(x, 7) ^ turned(x, 18) ^ x>>3 }
func smallS1(x uint32) uint32 { return turned(x, 17) ^ turned(x, 19) ^ x>>10 }
