// Package wire encodes integers and strings as bytes, decodes them, and computes checksums. Everything that is stored or transmitted is encoded with it. See shared/doc/01-wire.md.
package wire

import (
	"iter"
	"strings"

	"clearway/api"
)

// An integer is encoded in groups of 7 bits, one byte each. The largest number that is divided into groups, 2 * MaxInt, has 63 bits, hence 9 groups.
const (
	groupBits = 7
	more      = 1 << groupBits // is added to every byte but the last one
	maxGroups = 9
	maxFolded = 2 * api.MaxInt
)

// PutInt returns the encoding of n.
func PutInt(n int) (string, api.Errno) {
	if n < -api.MaxInt || n > api.MaxInt {
		return "", api.ErrWire
	}
	var b [maxGroups]byte
	size := 0
	for g := range groups(fold(n)) {
		b[size] = g
		size++
	}
	return string(b[:size]), api.OK
}

// Int returns the integer whose encoding begins at offset at of s, and the offset after the encoding.
func Int(s string, at int) (int, int, api.Errno) {
	if at < 0 || at > len(s) {
		return 0, 0, api.ErrArg
	}
	z, size := join(s[at:])
	if size == 0 || z > maxFolded {
		return 0, 0, api.ErrWire
	}
	return unfold(z), at + size, api.OK
}

// PutString returns the encoding of s.
func PutString(s string) (string, api.Errno) {
	if len(s) > api.MaxString {
		return "", api.ErrWire
	}
	head, e := PutInt(len(s))
	return head + s, e
}

// String returns the string whose encoding begins at offset at of s, and the offset after the encoding.
func String(s string, at int) (string, int, api.Errno) {
	n, from, e := Int(s, at)
	if e != api.OK {
		return "", 0, e
	}
	if n < 0 || n > api.MaxString || n > len(s)-from {
		return "", 0, api.ErrWire
	}
	// A copy, so that a short result does not keep all of s in memory.
	return strings.Clone(s[from : from+n]), from + n, api.OK
}

// fold gives integers from -MaxInt to MaxInt the numbers 0, 1, 2 .., so that those close to 0 have short encodings, whatever their sign.
func fold(n int) uint64 {
	if n < 0 {
		return uint64(-2*n - 1)
	}
	return uint64(2 * n)
}

// unfold undoes fold, for z up to maxFolded.
func unfold(z uint64) int {
	if z%2 == 1 {
		return -int(z/2) - 1
	}
	return int(z / 2)
}

// groups yields the bytes that encode z, the least significant group first.
func groups(z uint64) iter.Seq[byte] {
	return func(yield func(byte) bool) {
		rest := z
		for rest >= more {
			if !yield(byte(rest%more) + more) {
				return
			}
			rest >>= groupBits
		}
		yield(byte(rest))
	}
}

// join undoes groups: it returns the number that the first bytes of s encode, and how many bytes these are. It returns the size 0 if s ends too early, or has more groups than any number needs.
func join(s string) (uint64, int) {
	z := uint64(0)
	for i := range min(len(s), maxGroups) {
		b := s[i]
		z += uint64(b%more) << (groupBits * i)
		if b >= more {
			continue
		}
		if b == 0 && i > 0 { // a superfluous group: z has a shorter encoding
			return 0, 0
		}
		return z, i + 1
	}
	return 0, 0
}
