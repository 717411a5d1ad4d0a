package wire_test

import (
	"hash/crc32"
	"math/rand"
	"strings"
	"testing"

	"clearway/wire"
)

// slowSum computes the checksum bit by bit, as it is defined.
func slowSum(s string) int {
	r := uint32(0xFFFFFFFF)
	for _, b := range []byte(s) {
		r ^= uint32(b)
		for range 8 {
			out := r & 1
			r >>= 1
			if out == 1 {
				r ^= 0x82F63B78
			}
		}
	}
	return int(^r)
}

// randomString returns a string of n random bytes.
func randomString(r *rand.Rand, n int) string {
	b := make([]byte, n)
	r.Read(b)
	return string(b)
}

// P1.3: known checksums.
func TestSumExamples(t *testing.T) {
	for s, n := range map[string]int{
		"":                         0,
		"a":                        3251651376,
		"123456789":                3808858755,
		strings.Repeat("\x00", 32): 2324772522,
		strings.Repeat("\xff", 32): 1655221059,
	} {
		if m := wire.Sum(s); m != n {
			t.Errorf("Sum(%q) = %d, want %d", s, m, n)
		}
	}
}

// P1.3: the checksum is that of the definition, and that of hash/crc32.
func TestSumDefinition(t *testing.T) {
	table := crc32.MakeTable(crc32.Castagnoli)
	check := func(s string) {
		t.Helper()
		m := wire.Sum(s)
		if n := slowSum(s); m != n || m != int(crc32.Checksum([]byte(s), table)) {
			t.Fatalf("Sum(%.20q) of %d bytes = %d, want %d", s, len(s), m, n)
		}
	}
	for b := range 1 << 16 {
		check(string([]byte{byte(b), byte(b >> 8)}))
	}
	r := rand.New(rand.NewSource(2))
	for n := range 300 {
		check(randomString(r, n))
	}
	check(randomString(r, 100000))
}

// flip returns s with the bits of the pattern flipped from the bit at on, counted from the lowest bit of each byte. Bits beyond the end of s are left out.
func flip(s string, at int, pattern uint32) string {
	b := []byte(s)
	for k := range 32 {
		if i := at + k; pattern>>k&1 == 1 && i/8 < len(b) {
			b[i/8] ^= 1 << (i % 8)
		}
	}
	return string(b)
}

// P1.4: a change of at most 32 consecutive bits changes the checksum.
func TestSumBursts(t *testing.T) {
	r := rand.New(rand.NewSource(3))
	for _, size := range []int{1, 2, 3, 4, 5, 8, 13, 40} {
		for _, s := range []string{strings.Repeat("\x00", size), strings.Repeat("\xff", size), randomString(r, size)} {
			for at := range 8 * size {
				for _, p := range patterns(r) {
					if u := flip(s, at, p); u != s && wire.Sum(u) == wire.Sum(s) {
						t.Fatalf("Sum(%x) = Sum(%x)", u, s)
					}
				}
			}
		}
	}
}

// patterns returns patterns of 1 to 32 bits: pairs of bits, runs of bits, and random ones.
func patterns(r *rand.Rand) []uint32 {
	l := []uint32{0x82F63B78, 0x05EC76F1}
	for k := range 32 {
		l = append(l, 1|1<<k, uint32(1<<(k+1)-1), r.Uint32(), r.Uint32())
	}
	return l
}
