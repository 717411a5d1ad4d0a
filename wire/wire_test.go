package wire_test

import (
	"encoding/binary"
	"math"
	"math/rand"
	"strings"
	"testing"

	"clearway/api"
	"clearway/wire"
)

// wantInt fails the test if Int of s at the offset at does not give n, next and e.
func wantInt(t *testing.T, s string, at, n, next int, e api.Errno) {
	t.Helper()
	if m, k, f := wire.Int(s, at); m != n || k != next || f != e {
		t.Errorf("Int(%.40q, %d) = %d, %d, %d; want %d, %d, %d", s, at, m, k, f, n, next, e)
	}
}

// wantString fails the test if String of s at the offset at does not give u, next and e.
func wantString(t *testing.T, s string, at int, u string, next int, e api.Errno) {
	t.Helper()
	if v, k, f := wire.String(s, at); v != u || k != next || f != e {
		t.Errorf("String(%.40q, %d) = %.40q, %d, %d; want %.40q, %d, %d", s, at, v, k, f, u, next, e)
	}
}

// putInt returns the encoding of n, which must be from -MaxInt to MaxInt.
func putInt(t *testing.T, n int) string {
	t.Helper()
	s, e := wire.PutInt(n)
	if e != api.OK || s == "" {
		t.Fatalf("PutInt(%d) = %q, %d", n, s, e)
	}
	return s
}

// putString returns the encoding of s, which must have at most MaxString bytes.
func putString(t *testing.T, s string) string {
	t.Helper()
	u, e := wire.PutString(s)
	if e != api.OK {
		t.Fatalf("PutString of %d bytes: error %d", len(s), e)
	}
	return u
}

// integers returns integers from -MaxInt to MaxInt: the small ones, those around all powers of 2, and random ones.
func integers() []int {
	l := []int{api.MaxInt, -api.MaxInt, api.MaxInt - 1, 1 - api.MaxInt}
	for n := -9000; n <= 9000; n++ {
		l = append(l, n)
	}
	for k := 13; k < 62; k++ {
		for d := -2; d <= 2; d++ {
			l = append(l, 1<<k+d, -1<<k+d)
		}
	}
	r := rand.New(rand.NewSource(1))
	for range 2000 {
		n := int(r.Int63()) >> (1 + r.Intn(62))
		l = append(l, n, -n)
	}
	return l
}

// The examples of the chapter.
func TestIntExamples(t *testing.T) {
	for _, c := range []struct {
		n int
		s string
	}{
		{0, "\x00"},
		{-1, "\x01"},
		{1, "\x02"},
		{-64, "\x7f"},
		{64, "\x80\x01"},
		{150, "\xac\x02"},
		{api.MaxInt, "\xfe\xff\xff\xff\xff\xff\xff\xff\x7f"},
		{-api.MaxInt, "\xfd\xff\xff\xff\xff\xff\xff\xff\x7f"},
	} {
		if s := putInt(t, c.n); s != c.s {
			t.Errorf("PutInt(%d) = %x, want %x", c.n, s, c.s)
		}
		wantInt(t, c.s, 0, c.n, len(c.s), api.OK)
	}
}

// P1.1: every integer from -MaxInt to MaxInt has the encoding that is defined (that of encoding/binary too), and is decoded again.
func TestIntAll(t *testing.T) {
	for _, n := range integers() {
		s := putInt(t, n)
		if want := string(binary.AppendVarint(nil, int64(n))); s != want {
			t.Fatalf("PutInt(%d) = %x, want %x", n, s, want)
		}
		wantInt(t, s, 0, n, len(s), api.OK)
	}
}

// P1.1: integers beyond MaxInt have no encoding.
func TestPutIntOutside(t *testing.T) {
	for _, n := range []int{api.MaxInt + 1, -api.MaxInt - 1, api.MaxInt + 2, -api.MaxInt - 2, math.MaxInt - 1, math.MaxInt, math.MinInt + 1, math.MinInt} {
		if s, e := wire.PutInt(n); s != "" || e != api.ErrWire {
			t.Errorf("PutInt(%d) = %x, %d; want ErrWire", n, s, e)
		}
	}
}

// P1.1: offsets from 0 to len(s), and what surrounds the encoding.
func TestIntOffsets(t *testing.T) {
	s := "\xff\xac\x02\x80"
	wantInt(t, s, 0, -19264, 3, api.OK)
	wantInt(t, s, 1, 150, 3, api.OK)
	wantInt(t, s, 2, 1, 3, api.OK)
	wantInt(t, s, 3, 0, 0, api.ErrWire)
	wantInt(t, s, 4, 0, 0, api.ErrWire)
	wantInt(t, "", 0, 0, 0, api.ErrWire)
}

// badOffsets returns numbers that are no offsets into a string of size bytes.
func badOffsets(size int) []int {
	return []int{-1, size + 1, -2, size + 2, api.MaxInt, -api.MaxInt, math.MaxInt, math.MinInt}
}

// P1.1: ErrArg comes before ErrWire.
func TestIntBadOffsets(t *testing.T) {
	for _, s := range []string{"", "\x00", "\x80", "\x80\x00", "\xac\x02"} {
		for _, at := range badOffsets(len(s)) {
			wantInt(t, s, at, 0, 0, api.ErrArg)
		}
	}
}

// P1.1: an encoding that ends too early, and one with superfluous groups, is refused, also in the midst of a string.
func TestIntDamaged(t *testing.T) {
	for _, n := range integers() {
		s := putInt(t, n)
		for k := range len(s) {
			wantInt(t, s[:k], 0, 0, 0, api.ErrWire)
		}
		last := len(s) - 1
		long := s[:last] + string([]byte{s[last] | 128})
		for _, zeros := range []string{"\x00", "\x80\x00", "\x80\x80\x80\x80\x80\x80\x80\x80\x80\x80\x00"} {
			wantInt(t, long+zeros, 0, 0, 0, api.ErrWire)
			wantInt(t, "ab"+long+zeros+"c", 2, 0, 0, api.ErrWire)
		}
	}
}

// P1.1: encodings of integers that are not from -MaxInt to MaxInt are refused.
func TestIntTooLarge(t *testing.T) {
	for _, z := range []uint64{1<<63 - 1, 1 << 63, 1<<63 + 1, 1<<64 - 2, 1<<64 - 1} {
		wantInt(t, string(binary.AppendUvarint(nil, z)), 0, 0, 0, api.ErrWire)
	}
	for _, s := range []string{
		strings.Repeat("\xff", 9) + "\x02", // 65 bits
		strings.Repeat("\x80", 9) + "\x02", // 2^64: its low 64 bits are 0
		strings.Repeat("\x80", 10) + "\x01",
		strings.Repeat("\xff", 100) + "\x01",
		strings.Repeat("\x80", 9) + "\x00",
		strings.Repeat("\x80", 9),
		strings.Repeat("\x80", 100),
		strings.Repeat("\xff", 100),
	} {
		wantInt(t, s, 0, 0, 0, api.ErrWire)
	}
}

// The examples of the chapter, and the shortest and longest strings.
func TestStringExamples(t *testing.T) {
	if s := putString(t, "ab"); s != "\x04ab" {
		t.Errorf("PutString(ab) = %x", s)
	}
	wantString(t, "\x04abc", 0, "ab", 3, api.OK)
	wantString(t, "\x04a", 0, "", 0, api.ErrWire)
	if s := putString(t, ""); s != "\x00" {
		t.Errorf("PutString of the empty string = %x", s)
	}
	wantString(t, "\x00", 0, "", 1, api.OK)
	wantString(t, "\x00\x00", 1, "", 2, api.OK)
}

// P1.2: the encoding of a string is that of its length, and its bytes.
func TestStringAll(t *testing.T) {
	for _, n := range []int{0, 1, 2, 63, 64, 65, 127, 128, 8191, 8192, 8193, api.MaxString - 1, api.MaxString} {
		for _, b := range []string{"\x00", "x", "\x80", "\xff"} {
			s := strings.Repeat(b, n)
			u := putString(t, s)
			if u != putInt(t, n)+s {
				t.Fatalf("PutString of %d bytes is %.20x..", n, u)
			}
			wantString(t, u, 0, s, len(u), api.OK)
			wantString(t, "\xff"+u+"\xff", 1, s, len(u)+1, api.OK)
		}
	}
}

// P1.2: a string of more than MaxString bytes has no encoding, and what looks like one is refused.
func TestStringTooLong(t *testing.T) {
	for _, n := range []int{api.MaxString + 1, api.MaxString + 2, 2 * api.MaxString, 3 * api.MaxString} {
		s := strings.Repeat("x", n)
		if u, e := wire.PutString(s); u != "" || e != api.ErrWire {
			t.Errorf("PutString of %d bytes: %d bytes, %d", n, len(u), e)
		}
		wantString(t, putInt(t, n)+s, 0, "", 0, api.ErrWire)
	}
}

// P1.2: what follows is shorter than its length says, by one byte or by all.
func TestStringTooShort(t *testing.T) {
	for _, n := range []int{1, 2, 64, 8192, api.MaxString} {
		head := putInt(t, n)
		wantString(t, head+strings.Repeat("x", n-1), 0, "", 0, api.ErrWire)
		wantString(t, head, 0, "", 0, api.ErrWire)
	}
}

// P1.2: lengths that are negative, too large, or no encodings of integers.
func TestStringBadLengths(t *testing.T) {
	rest := strings.Repeat("x", 100)
	for _, n := range []int{-1, -2, -64, -65, 1 - api.MaxString, -api.MaxString, 1 << 31, 1 << 32, 1<<32 + 1, api.MaxInt - 1, api.MaxInt, -api.MaxInt} {
		wantString(t, putInt(t, n)+rest, 0, "", 0, api.ErrWire)
	}
	for _, head := range []string{"\x80\x00", "\x84\x00", "\x84\x80\x00", "\xff\xff\xff\xff\xff\xff\xff\xff\x7f", strings.Repeat("\x80", 9) + "\x02"} {
		wantString(t, head+rest, 0, "", 0, api.ErrWire)
	}
	wantString(t, "", 0, "", 0, api.ErrWire)
	wantString(t, "\x80", 0, "", 0, api.ErrWire)
}

// P1.2: ErrArg comes before ErrWire; len(s) is an offset.
func TestStringOffsets(t *testing.T) {
	for _, s := range []string{"", "\x00", "\x80", "\x04a", "\x04abc"} {
		for _, at := range badOffsets(len(s)) {
			wantString(t, s, at, "", 0, api.ErrArg)
		}
		wantString(t, s, len(s), "", 0, api.ErrWire)
	}
}
