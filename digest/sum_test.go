package digest_test

import (
	"fmt"
	"math/rand"
	"strings"
	"testing"

	"clearway/digest"
)

// randomString returns a string of n random bytes.
func randomString(r *rand.Rand, n int) string {
	b := make([]byte, n)
	r.Read(b)
	return string(b)
}

// The chapter's examples, and other known digests.
func TestSumExamples(t *testing.T) {
	for _, c := range [][2]string{
		{"", "e3b0c44298fc1c149afbf4c8996fb92427ae41e4649b934ca495991b7852b855"},
		{"abc", "ba7816bf8f01cfea414140de5dae2223b00361a396177a9cb410ff61f20015ad"},
		{"abcdbcdecdefdefgefghfghighijhijkijkljklmklmnlmnomnopnopq", "248d6a61d20638b8e5c026930c3e6039a33ce45964ff2167f6ecedd419db06c1"},
		{strings.Repeat("a", 1000000), "cdc76e5c9914fb9281a1c7e284d73e67f1809a48a497200e046d39ccc7112cd0"},
	} {
		if d := fmt.Sprintf("%x", digest.Sum(c[0])); d != c[1] {
			t.Errorf("Sum(%.20q) = %s", c[0], d)
		}
	}
	if d := fmt.Sprintf("%x", digest.Leaf("abc")); d != "609f6e36d2405585188d5cfd761f407c7cc46a7d3f314c88270469dde315fcd1" {
		t.Errorf("Leaf(abc) = %s", d)
	}
}

// P2.1: Sum is SHA-256, for strings of all sizes up to several blocks (55, 56, 63, 64, 119 and 120 bytes among them), and long ones.
func TestSumDefinition(t *testing.T) {
	r := rand.New(rand.NewSource(1))
	check := func(s string) {
		t.Helper()
		if d := digest.Sum(s); d != hash(s) {
			t.Fatalf("Sum of %d bytes (%.20q) = %x, want %x", len(s), s, d, hash(s))
		}
	}
	for n := range 700 {
		check(strings.Repeat("\x00", n))
		check(strings.Repeat("\xff", n))
		check(randomString(r, n))
	}
	for b := range 256 {
		check(string([]byte{byte(b)}))
	}
	for _, n := range []int{8191, 8192, 8193, 65535, 65536, 65537, 1 << 21} { // the length in bits gets more bytes
		check(randomString(r, n))
	}
}

// P2.1: Chain, Leaf and Node put their marks before any strings, of digests' size or not, wherever these meet in a block.
func TestMarks(t *testing.T) {
	r := rand.New(rand.NewSource(2))
	a, b := randomString(r, 200), randomString(r, 200)
	for n := range 140 {
		if d := digest.Leaf(a[:n]); d != hash("\x00", a[:n]) {
			t.Fatalf("Leaf of %d bytes = %x", n, d)
		}
		for m := range 140 {
			if d := digest.Node(a[:n], b[:m]); d != hash("\x01", a[:n], b[:m]) {
				t.Fatalf("Node of %d and %d bytes = %x", n, m, d)
			}
			if d := digest.Chain(a[:n], b[:m]); d != hash("\x02", a[:n], b[:m]) {
				t.Fatalf("Chain of %d and %d bytes = %x", n, m, d)
			}
		}
	}
	long := strings.Repeat(a, 1000)
	if digest.Leaf(long) != hash("\x00", long) || digest.Node(long, b) != hash("\x01", long, b) || digest.Chain(b, long) != hash("\x02", b, long) {
		t.Error("long strings")
	}
}

// head returns the head of a list of records.
func head(l ...string) string {
	h := strings.Repeat("\x00", 32)
	for _, s := range l {
		h = digest.Chain(h, s)
	}
	return h
}

// P2.3: different lists of records have different heads, none of which is 32 zero bytes; also if the one list is made so that its records look like parts of the other one's.
func TestHeads(t *testing.T) {
	zeros := strings.Repeat("\x00", 32)
	all := []string{"", "a", "b", "ab", "\x02", zeros, zeros + "a", "\x02" + zeros, "\x02" + zeros + "a", head("a"), head("a") + "b", head("a", "b")}
	lists := [][]string{nil}
	seen := map[string][]string{}
	for k := 0; k < len(lists); k++ {
		l := lists[k]
		h := head(l...)
		if m, ok := seen[h]; ok {
			t.Fatalf("%q and %q have the same head", l, m)
		}
		seen[h] = l
		for _, s := range all {
			if len(l) < 3 {
				lists = append(lists, append(l[:len(l):len(l)], s))
			}
		}
	}
	if len(lists) != 1+12+144+1728 {
		t.Fatalf("%d lists", len(lists))
	}
}
