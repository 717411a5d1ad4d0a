package wire_test

import (
	"encoding/binary"
	"math/rand"
	"slices"
	"strings"
	"testing"

	"clearway/api"
	"clearway/wire"
)

// P1.4: no two integers have the same encoding, and no encoding begins with another one.
func TestIntPrefixFree(t *testing.T) {
	l := integers()
	slices.Sort(l)
	l = slices.Compact(l)
	var codes []string
	for _, n := range l {
		codes = append(codes, putInt(t, n))
	}
	wantPrefixFree(t, codes)
}

// P1.4: the same of strings.
func TestStringPrefixFree(t *testing.T) {
	var codes []string
	for _, b := range []string{"", "\x00", "a", "\x02"} {
		for n := 1; n <= 300; n++ {
			codes = append(codes, putString(t, b+strings.Repeat("a", n)+b))
		}
	}
	slices.Sort(codes)
	wantPrefixFree(t, slices.Compact(codes))
}

// wantPrefixFree fails the test if one of the codes is, or begins with, another one. In ascending order, a code stands right before those that begin with it.
func wantPrefixFree(t *testing.T, codes []string) {
	t.Helper()
	slices.Sort(codes)
	for i := 1; i < len(codes); i++ {
		if strings.HasPrefix(codes[i], codes[i-1]) {
			t.Fatalf("%x begins with %x", codes[i], codes[i-1])
		}
	}
}

// reference decodes an integer with encoding/binary: it returns the number and the size of its encoding, or the size 0 if there is none at the beginning of s.
func reference(s string) (int, int) {
	n, size := binary.Varint([]byte(s))
	if size <= 0 || n < -api.MaxInt || n > api.MaxInt || string(binary.AppendVarint(nil, n)) != s[:size] {
		return 0, 0
	}
	return int(n), size
}

// wantExact fails the test if Int and String accept, at the offset at of s, anything but what PutInt and PutString return, or less than that.
func wantExact(t *testing.T, s string, at int) {
	t.Helper()
	n, size := reference(s[at:])
	if size == 0 {
		wantInt(t, s, at, 0, 0, api.ErrWire)
		wantString(t, s, at, "", 0, api.ErrWire)
		return
	}
	from := at + size
	wantInt(t, s, at, n, from, api.OK)
	if code := putInt(t, n); code != s[at:from] {
		t.Errorf("Int accepts %x, but PutInt(%d) = %x", s[at:from], n, code)
	}
	if n < 0 || n > api.MaxString || n > len(s)-from {
		wantString(t, s, at, "", 0, api.ErrWire)
		return
	}
	wantString(t, s, at, s[from:from+n], from+n, api.OK)
	if code := putString(t, s[from:from+n]); code != s[at:from+n] {
		t.Errorf("String accepts %x, but PutString returns %x", s[at:from+n], code)
	}
}

// P1.4: all strings of up to two bytes.
func TestExactShort(t *testing.T) {
	wantExact(t, "", 0)
	for a := range 256 {
		wantExact(t, string([]byte{byte(a)}), 0)
		for b := range 256 {
			wantExact(t, string([]byte{byte(a), byte(b)}), 0)
		}
	}
}

// P1.4: longer strings, of bytes at the edges, at all offsets.
func TestExactLong(t *testing.T) {
	r := rand.New(rand.NewSource(4))
	edges := "\x00\x01\x02\x04\x3f\x40\x7e\x7f\x80\x81\x84\xfc\xfd\xfe\xff"
	for range 50000 {
		b := make([]byte, r.Intn(14))
		for i := range b {
			b[i] = edges[r.Intn(len(edges))]
			if r.Intn(3) > 0 { // long encodings are rare without this
				b[i] |= 128
			}
		}
		for at := range len(b) + 1 {
			wantExact(t, string(b), at)
		}
	}
}

// P1.4: whatever surrounds an encoding, it is decoded to what was encoded.
func TestSurrounded(t *testing.T) {
	around := []string{"", "\x00", "\x7f", "\x80", "\xff", "\x80\x00", strings.Repeat("\xff", 20)}
	for _, n := range []int{0, 1, -1, 63, 64, -64, -65, 150, 1 << 40, api.MaxInt, -api.MaxInt} {
		for _, before := range around {
			for _, after := range around {
				s := before + putInt(t, n)
				wantInt(t, s+after, len(before), n, len(s), api.OK)
				text := string(binary.AppendVarint([]byte("text"), int64(n)))
				u := before + putString(t, text)
				wantString(t, u+after, len(before), text, len(u), api.OK)
			}
		}
	}
}

// P1.4: a concatenation of encodings is decoded to the list that was encoded, and to its end.
func TestConcatenation(t *testing.T) {
	r := rand.New(rand.NewSource(5))
	for range 300 {
		var numbers []int
		var texts []string
		s := ""
		for range r.Intn(20) {
			n := int(r.Int63()) >> (1 + r.Intn(62))
			if r.Intn(2) == 0 {
				n = -n
			}
			text := randomString(r, r.Intn(200))
			numbers = append(numbers, n)
			texts = append(texts, text)
			s += putInt(t, n) + putString(t, text)
		}
		at := 0
		for i := range numbers {
			size := len(putInt(t, numbers[i]))
			wantInt(t, s, at, numbers[i], at+size, api.OK)
			at += size
			size = len(putString(t, texts[i]))
			wantString(t, s, at, texts[i], at+size, api.OK)
			at += size
		}
		if at != len(s) {
			t.Fatalf("decoded %d of %d bytes", at, len(s))
		}
	}
}

// R4: the results depend on the arguments alone, whatever was called before.
func TestRepeated(t *testing.T) {
	for range 3 {
		wantInt(t, "\x80", 0, 0, 0, api.ErrWire)
		wantInt(t, "\xac\x02", 0, 150, 2, api.OK)
		wantString(t, "\x04a", 0, "", 0, api.ErrWire)
		wantString(t, "\x04ab", 0, "ab", 3, api.OK)
		if n := wire.Sum("123456789"); n != 3808858755 {
			t.Errorf("Sum(123456789) = %d", n)
		}
	}
}
