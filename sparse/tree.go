package sparse

import (
	"clearway/api"
	"clearway/digest"
	"clearway/wire"
)

// What is digested begins with a mark, so that nobody can pass off the halves of a part as the value at a key, or the other way round.
const (
	leafMark = "\x08"
	nodeMark = "\x09"
)

// nothing is the digest of a part without keys: 32 zero bytes.
const nothing = "\x00\x00\x00\x00\x00\x00\x00\x00\x00\x00\x00\x00\x00\x00\x00\x00\x00\x00\x00\x00\x00\x00\x00\x00\x00\x00\x00\x00\x00\x00\x00\x00"

// tree has the digest of the part (d, p) at the index 2^d + p. So the whole is at top, the halves of the part at i are at 2 * i and 2 * i + 1, and the key k is at lowest + k.
type tree [2 * api.MaxKeys]string

const (
	top    = 1
	lowest = api.MaxKeys
)

// grow returns the tree of what is at each key, where the digests of the parts at the indexes closed are those of path, whatever is at their keys.
func grow(v values, closed []int, path []string) tree {
	var t tree
	for i, part := range closed {
		t[part] = path[i]
	}
	for k, s := range v {
		if t[lowest+k] == "" {
			t[lowest+k] = leaf(k, s)
		}
	}
	for i := lowest - 1; i >= top; i-- {
		if t[i] == "" {
			t[i] = node(t[2*i], t[2*i+1])
		}
	}
	return t
}

// closed returns the indexes of the closed parts of an opening at the keys, from left to right.
func closed(keys []int) []int {
	var open [2 * api.MaxKeys]bool
	for _, k := range keys {
		for up := range api.KeyBits + 1 {
			open[(lowest+k)>>up] = true
		}
	}
	var l []int
	var walk func(part int)
	walk = func(part int) {
		if !open[part] {
			l = append(l, part)
			return
		}
		if part < lowest {
			walk(2 * part)
			walk(2*part + 1)
		}
	}
	walk(top)
	return l
}

// leaf returns the digest of the part of the key k alone, with the value s.
func leaf(k int, s string) string {
	if s == "" {
		return nothing
	}
	key, _ := wire.PutInt(k) // every key has an encoding
	return digest.Sum(leafMark + key + s)
}

// node returns the digest of a part whose halves have the digests a and b.
func node(a, b string) string {
	if a == nothing && b == nothing {
		return nothing
	}
	return digest.Sum(nodeMark + a + b)
}
