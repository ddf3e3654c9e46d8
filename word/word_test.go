package word

import (
	"math"
	"math/bits"
	"strings"
	"testing"
)

// words32 are numbers whose bytes differ from each other, and the edges.
var words32 = []uint32{0, 1, 2, 255, 256, 258, 65535, 65536, 0x01020304, 0x12345678, 0x7fffffff, 0x80000000, 0x80000001, 0xdeadbeef, 0xfffffffe, math.MaxUint32}

var words64 = []uint64{0, 1, 2, 255, 256, 258, 1 << 31, 1 << 32, 0x0102030405060708, 0x123456789abcdef0, 0xfedcba9876543210, math.MaxInt64, 1 << 63, 1<<63 + 1, math.MaxUint64 - 1, math.MaxUint64}

// turn is the rotation by single bits: n of 0 to 31.
func turn(x uint32, n int) uint32 {
	for range n {
		low := x & 1
		x >>= 1
		if low == 1 {
			x |= 1 << 31
		}
	}
	return x
}

// rest is n modulo 32, from 0 to 31.
func rest(n int) int {
	r := n % 32
	if r < 0 {
		r += 32
	}
	return r
}

// P1.1: the examples and named edges.
func TestRotKnown(t *testing.T) {
	for _, c := range []struct {
		x    uint32
		n    int
		want uint32
	}{
		{1, 1, 2147483648},
		{1, 0, 1},
		{1, 31, 2},
		{1, 32, 1},
		{1, 33, 2147483648},
		{1, 64, 1},
		{1, -1, 2},
		{1, -31, 2147483648},
		{1, -32, 1},
		{1, -33, 2},
		{0x80000000, -1, 1},
		{0x12345678, 4, 0x81234567},
		{0x12345678, 8, 0x78123456},
		{0x12345678, 16, 0x56781234},
		{0x12345678, -8, 0x34567812},
		{0x12345678, math.MaxInt, 0x2468acf0},
		{0x12345678, math.MinInt, 0x12345678},
		{0x12345678, math.MinInt + 1, 0x091a2b3c},
		{0, 17, 0},
		{math.MaxUint32, 17, math.MaxUint32},
	} {
		if got := Rot(c.x, c.n); got != c.want {
			t.Errorf("Rot(%#x, %d) = %#x, want %#x", c.x, c.n, got, c.want)
		}
	}
}

// P1.1: against rotation bit by bit.
func TestRotEveryAmount(t *testing.T) {
	var amounts []int
	for n := -130; n <= 130; n++ {
		amounts = append(amounts, n)
	}
	for d := range 70 {
		amounts = append(amounts, math.MaxInt-d, math.MinInt+d, 1<<31+d, -1<<31-d)
	}
	for _, x := range words32 {
		for _, n := range amounts {
			if got, want := Rot(x, n), turn(x, rest(n)); got != want {
				t.Errorf("Rot(%#x, %d) = %#x, want %#x", x, n, got, want)
			}
		}
	}
}

// P1.2: the bytes of known numbers.
func TestPutKnown(t *testing.T) {
	for _, c := range []struct {
		x    uint32
		want string
	}{
		{0, "\x00\x00\x00\x00"},
		{1, "\x00\x00\x00\x01"},
		{258, "\x00\x00\x01\x02"},
		{0x01020304, "\x01\x02\x03\x04"},
		{0x80000000, "\x80\x00\x00\x00"},
		{math.MaxUint32, "\xff\xff\xff\xff"},
	} {
		if got := Put32(c.x); got != c.want {
			t.Errorf("Put32(%#x) = %q, want %q", c.x, got, c.want)
		}
	}
	for _, c := range []struct {
		x    uint64
		want string
	}{
		{0, "\x00\x00\x00\x00\x00\x00\x00\x00"},
		{1, "\x00\x00\x00\x00\x00\x00\x00\x01"},
		{258, "\x00\x00\x00\x00\x00\x00\x01\x02"},
		{0x0102030405060708, "\x01\x02\x03\x04\x05\x06\x07\x08"},
		{1 << 63, "\x80\x00\x00\x00\x00\x00\x00\x00"},
		{math.MaxUint64, "\xff\xff\xff\xff\xff\xff\xff\xff"},
	} {
		if got := Put64(c.x); got != c.want {
			t.Errorf("Put64(%#x) = %q, want %q", c.x, got, c.want)
		}
	}
}

// P1.2: the numbers of known bytes, at the edges of the string.
func TestTake32Known(t *testing.T) {
	const b = "\x01\x02\x03\x04\x05\xff"
	for _, c := range []struct {
		b    string
		at   int
		want uint32
	}{
		{"\x01\x02", 1, 33554432},
		{b, 0, 0x01020304},
		{b, 1, 0x02030405},
		{b, 2, 0x030405ff},
		{b, 3, 0x0405ff00},
		{b, 4, 0x05ff0000},
		{b, 5, 0xff000000},
		{b, 6, 0},
		{b, 7, 0},
		{b, math.MaxInt, 0},
		{b, math.MaxInt - 1, 0},
		{b, math.MaxInt - 3, 0},
		{b, -1, 0},
		{b, -2, 0},
		{b, -3, 0},
		{b, -4, 0},
		{b, math.MinInt, 0},
		{"", 0, 0},
		{"", 1, 0},
		{"", -1, 0},
		{"", math.MaxInt, 0},
		{"", math.MinInt, 0},
		{"\x01", 0, 0x01000000},
		{"\x01\x02", 0, 0x01020000},
		{"\x01\x02\x03", 0, 0x01020300},
	} {
		if got := Take32(c.b, c.at); got != c.want {
			t.Errorf("Take32(%q, %d) = %#x, want %#x", c.b, c.at, got, c.want)
		}
	}
}

func TestTake64Known(t *testing.T) {
	const b = "\x01\x02\x03\x04\x05\x06\x07\x08\x09\xff"
	for _, c := range []struct {
		b    string
		at   int
		want uint64
	}{
		{b, 0, 0x0102030405060708},
		{b, 1, 0x0203040506070809},
		{b, 2, 0x03040506070809ff},
		{b, 3, 0x040506070809ff00},
		{b, 8, 0x09ff000000000000},
		{b, 9, 0xff00000000000000},
		{b, 10, 0},
		{b, 11, 0},
		{b, math.MaxInt, 0},
		{b, math.MaxInt - 1, 0},
		{b, math.MaxInt - 7, 0},
		{b, -1, 0},
		{b, -7, 0},
		{b, -8, 0},
		{b, math.MinInt, 0},
		{"", 0, 0},
		{"", 1, 0},
		{"", -1, 0},
		{"", math.MaxInt, 0},
		{"", math.MinInt, 0},
		{"\x01", 0, 0x0100000000000000},
		{"\x01\x02\x03\x04", 0, 0x0102030400000000},
		{"\x01\x02\x03\x04\x05\x06\x07", 0, 0x0102030405060700},
	} {
		if got := Take64(c.b, c.at); got != c.want {
			t.Errorf("Take64(%q, %d) = %#x, want %#x", c.b, c.at, got, c.want)
		}
	}
}

// P1.2: a missing byte counts as a 0 that is appended, at every index and every length.
func TestTakeMissingBytes(t *testing.T) {
	const whole = "\xf1\xf2\xf3\xf4\xf5\xf6\xf7\xf8\xf9\xfa\xfb\xfc"
	for n := range len(whole) + 1 {
		b := whole[:n]
		filled := b + strings.Repeat("\x00", 32)
		for at := range 20 {
			if got, want := Take32(b, at), Take32(filled, at); got != want {
				t.Errorf("Take32(%q, %d) = %#x, want %#x", b, at, got, want)
			}
			if got, want := Take64(b, at), Take64(filled, at); got != want {
				t.Errorf("Take64(%q, %d) = %#x, want %#x", b, at, got, want)
			}
			if got := Put32(Take32(b, at)); got != filled[at:at+4] {
				t.Errorf("the bytes of Take32(%q, %d) are %q, want %q", b, at, got, filled[at:at+4])
			}
			if got := Put64(Take64(b, at)); got != filled[at:at+8] {
				t.Errorf("the bytes of Take64(%q, %d) are %q, want %q", b, at, got, filled[at:at+8])
			}
		}
		for at := -20; at < 0; at++ {
			if Take32(b, at) != 0 || Take64(b, at) != 0 {
				t.Errorf("Take of %q at %d is not 0", b, at)
			}
		}
	}
}

// P1.3: the edges and every power of two, with the bits below it clear, set and mixed.
func TestLead(t *testing.T) {
	if got := Lead(0); got != 64 {
		t.Errorf("Lead(0) = %d, want 64", got)
	}
	if got := Lead(1); got != 63 {
		t.Errorf("Lead(1) = %d, want 63", got)
	}
	if got := Lead(math.MaxUint64); got != 0 {
		t.Errorf("Lead of the greatest number = %d, want 0", got)
	}
	for i := range 64 {
		top := uint64(1) << i
		for _, x := range []uint64{top, top | (top - 1), top | (top-1)&0x5555555555555555} {
			if got := Lead(x); got != 63-i {
				t.Errorf("Lead(%#x) = %d, want %d", x, got, 63-i)
			}
		}
	}
	for _, x := range words64 {
		if got, want := Lead(x), bits.LeadingZeros64(x); got != want {
			t.Errorf("Lead(%#x) = %d, want %d", x, got, want)
		}
	}
}

// P1.4: alone, and between other bytes.
func TestTakeInvertsPut(t *testing.T) {
	const around = "\xaa\xbb\xcc"
	for _, x := range words32 {
		if got := Take32(Put32(x), 0); got != x {
			t.Errorf("Take32(Put32(%#x), 0) = %#x", x, got)
		}
		if got := Take32(around+Put32(x)+around, len(around)); got != x {
			t.Errorf("Take32 of the bytes of %#x between others = %#x", x, got)
		}
	}
	for _, x := range words64 {
		if got := Take64(Put64(x), 0); got != x {
			t.Errorf("Take64(Put64(%#x), 0) = %#x", x, got)
		}
		if got := Take64(around+Put64(x)+around, len(around)); got != x {
			t.Errorf("Take64 of the bytes of %#x between others = %#x", x, got)
		}
	}
}

func FuzzTakeInvertsPut(f *testing.F) {
	for i, x := range words64 {
		f.Add(x, i)
	}
	f.Fuzz(func(t *testing.T, x uint64, n int) {
		w := uint32(x)
		if Take32(Put32(w), 0) != w || Take64(Put64(x), 0) != x {
			t.Errorf("Take does not invert Put for %#x", x)
		}
		if got, want := Rot(w, n), turn(w, rest(n)); got != want {
			t.Errorf("Rot(%#x, %d) = %#x, want %#x", w, n, got, want)
		}
		if got, want := Lead(x), bits.LeadingZeros64(x); got != want {
			t.Errorf("Lead(%#x) = %d, want %d", x, got, want)
		}
	})
}
