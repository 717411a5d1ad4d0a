package digest

import (
	"encoding/binary"
	"strings"
	"testing"
)

// P2.1: the length of a string in bits has eight bytes, also for strings that are too long for an ordinary test.
func TestPadding(t *testing.T) {
	for _, n := range []int{0, 1, 55, 56, 63, 64, 119, 120, 8192, 1<<29 - 1, 1 << 29, 1<<29 + 55, 1<<29 + 56, 1<<31 - 1} {
		p := padding(n)
		last := len(p) - 8
		if (n+len(p))%64 != 0 || last < 1 || last > 64 {
			t.Fatalf("padding of %d bytes has %d bytes", n, len(p))
		}
		if p[:last] != "\x80"+strings.Repeat("\x00", last-1) || binary.BigEndian.Uint64([]byte(p[last:])) != 8*uint64(n) {
			t.Errorf("padding of %d bytes = %x", n, p)
		}
	}
}

// blocks stops if the loop over it does, at the first block as at a later one.
func TestBlocksStop(t *testing.T) {
	parts := []string{strings.Repeat("a", 60), strings.Repeat("b", 70), "", strings.Repeat("c", 126)}
	all := strings.Join(parts, "")
	for want := range 5 {
		got := ""
		for b := range blocks(parts) {
			if len(got) == 64*want {
				break
			}
			got += string(b[:])
		}
		if got != all[:64*want] {
			t.Errorf("%d blocks: %q", want, got)
		}
	}
}
