package digest

import (
	"iter"
	"math/bits"
	"slices"

	"clearway/api"
)

// SHA-256 works on blocks of 16 words of 4 bytes, and does a round for each of its 64 constants. The last 8 bytes of the last block are the length of the string in bits.
const (
	blockSize  = 64
	blockWords = 16
	wordSize   = 4
	words      = 8
	rounds     = 64
	lengthSize = 8
)

// constants are the words k(0) to k(63).
var constants = [rounds]uint32{
	0x428a2f98, 0x71374491, 0xb5c0fbcf, 0xe9b5dba5, 0x3956c25b, 0x59f111f1, 0x923f82a4, 0xab1c5ed5,
	0xd807aa98, 0x12835b01, 0x243185be, 0x550c7dc3, 0x72be5d74, 0x80deb1fe, 0x9bdc06a7, 0xc19bf174,
	0xe49b69c1, 0xefbe4786, 0x0fc19dc6, 0x240ca1cc, 0x2de92c6f, 0x4a7484aa, 0x5cb0a9dc, 0x76f988da,
	0x983e5152, 0xa831c66d, 0xb00327c8, 0xbf597fc7, 0xc6e00bf3, 0xd5a79147, 0x06ca6351, 0x14292967,
	0x27b70a85, 0x2e1b2138, 0x4d2c6dfc, 0x53380d13, 0x650a7354, 0x766a0abb, 0x81c2c92e, 0x92722c85,
	0xa2bfe8a1, 0xa81a664b, 0xc24b8b70, 0xc76c51a3, 0xd192e819, 0xd6990624, 0xf40e3585, 0x106aa070,
	0x19a4c116, 0x1e376c08, 0x2748774c, 0x34b0bcb5, 0x391c0cb3, 0x4ed8aa4a, 0x5b9cca4f, 0x682e6ff3,
	0x748f82ee, 0x78a5636f, 0x84c87814, 0x8cc70208, 0x90befffa, 0xa4506ceb, 0xbef9a3f7, 0xc67178f2,
}

// sum returns the digest of the parts, one after the other. They are not joined, so that a long string is not copied.
func sum(parts ...string) string {
	size := 0
	for _, p := range parts {
		size += len(p)
	}
	h := [words]uint32{0x6a09e667, 0xbb67ae85, 0x3c6ef372, 0xa54ff53a, 0x510e527f, 0x9b05688c, 0x1f83d9ab, 0x5be0cd19}
	for b := range blocks(slices.Concat(parts, []string{padding(size)})) {
		h = mix(h, schedule(b))
	}
	var out [api.DigestSize]byte
	for i, w := range h {
		for j := range wordSize {
			out[wordSize*i+j] = byte(w >> (8 * (wordSize - 1 - j)))
		}
	}
	return string(out[:])
}

// padding returns what follows a string of size bytes, so that there are whole blocks: the byte 128, zero bytes, and the length.
func padding(size int) string {
	var b [blockSize + lengthSize]byte
	b[0] = 128
	end := blockSize - size%blockSize
	if end <= lengthSize { // no room for the byte 128 and the length: a further block
		end += blockSize
	}
	for i := range lengthSize {
		b[end-1-i] = byte(8 * uint64(size) >> (8 * i))
	}
	return string(b[:end])
}

// blocks yields the blocks of the parts, one after the other. The parts together are whole blocks.
func blocks(parts []string) iter.Seq[[blockSize]byte] {
	return func(yield func([blockSize]byte) bool) {
		var b [blockSize]byte
		full := 0
	next:
		for _, p := range parts {
			for {
				n := copy(b[full:], p)
				full += n
				if full < blockSize { // p is used up
					continue next
				}
				if !yield(b) {
					return
				}
				full = 0
				p = p[n:]
			}
		}
	}
}

// schedule returns the words w(0) to w(63) of a block.
func schedule(b [blockSize]byte) [rounds]uint32 {
	var w [rounds]uint32
	for i := range blockWords {
		for j := range wordSize {
			w[i] = w[i]<<8 | uint32(b[wordSize*i+j])
		}
	}
	for i := blockWords; i < rounds; i++ {
		x := rotate(w[i-15], 7) ^ rotate(w[i-15], 18) ^ w[i-15]>>3
		y := rotate(w[i-2], 17) ^ rotate(w[i-2], 19) ^ w[i-2]>>10
		w[i] = w[i-16] + x + w[i-7] + y
	}
	return w
}

// mix returns what the eight words h become by a block with the words w.
func mix(h [words]uint32, w [rounds]uint32) [words]uint32 {
	a, b, c, d, e, f, g, last := h[0], h[1], h[2], h[3], h[4], h[5], h[6], h[7]
	for i := range rounds {
		t := last + (rotate(e, 6) ^ rotate(e, 11) ^ rotate(e, 25)) + (e&f ^ ^e&g) + constants[i] + w[i]
		u := (rotate(a, 2) ^ rotate(a, 13) ^ rotate(a, 22)) + (a&b ^ a&c ^ b&c)
		a, b, c, d, e, f, g, last = t+u, a, b, c, d+t, e, f, g
	}
	return [words]uint32{h[0] + a, h[1] + b, h[2] + c, h[3] + d, h[4] + e, h[5] + f, h[6] + g, h[7] + last}
}

// rotate returns w rotated right by n bits.
func rotate(w uint32, n int) uint32 {
	return bits.RotateLeft32(w, -n)
}
