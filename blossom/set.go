package blossom

import (
	"iter"
	"math/bits"
)

// set is a set of vertices, which are the bits of an integer.
type set uint32

// only returns the set of v alone.
func only(v int) set { return 1 << v }

// has reports whether v is in s.
func (s set) has(v int) bool { return s>>v&1 == 1 }

// size returns how many there are in s.
func (s set) size() int { return bits.OnesCount32(uint32(s)) }

// least returns the least one in s, which is not empty.
func (s set) least() int { return bits.TrailingZeros32(uint32(s)) }

// all yields what is in s, in ascending order.
func (s set) all() iter.Seq[int] {
	return func(yield func(int) bool) {
		for ; s != 0; s &= s - 1 {
			if !yield(s.least()) {
				return
			}
		}
	}
}
