package num

import (
	"encoding/binary"
	"math"
	"math/rand"
	"strings"
	"testing"

	"milepost/api"
)

// full returns n bytes that all are 255, and then the given ones.
func full(n int, after string) string {
	return strings.Repeat("\xff", n) + after
}

// zeros returns n bytes that all are 128 (their groups are 0), and then the given ones.
func zeros(n int, after string) string {
	return strings.Repeat("\x80", n) + after
}

// written are numbers and their bytes, written out.
var written = []struct {
	x uint64
	b string
}{
	{0, "\x00"},
	{1, "\x01"},
	{2, "\x02"},
	{127, "\x7f"},
	{128, "\x80\x01"},
	{129, "\x81\x01"},
	{255, "\xff\x01"},
	{256, "\x80\x02"},
	{300, "\xac\x02"},
	{16383, "\xff\x7f"},
	{16384, "\x80\x80\x01"},
	{16385, "\x81\x80\x01"},
	{1<<21 - 1, "\xff\xff\x7f"},
	{1 << 21, "\x80\x80\x80\x01"},
	{1<<28 - 1, "\xff\xff\xff\x7f"},
	{1 << 28, "\x80\x80\x80\x80\x01"},
	{1<<32 - 1, "\xff\xff\xff\xff\x0f"},
	{1 << 32, "\x80\x80\x80\x80\x10"},
	{1<<35 - 1, "\xff\xff\xff\xff\x7f"},
	{1 << 35, "\x80\x80\x80\x80\x80\x01"},
	{1<<42 - 1, "\xff\xff\xff\xff\xff\x7f"},
	{1 << 42, "\x80\x80\x80\x80\x80\x80\x01"},
	{1<<49 - 1, "\xff\xff\xff\xff\xff\xff\x7f"},
	{1 << 49, "\x80\x80\x80\x80\x80\x80\x80\x01"},
	{1<<56 - 1, "\xff\xff\xff\xff\xff\xff\xff\x7f"},
	{1 << 56, "\x80\x80\x80\x80\x80\x80\x80\x80\x01"},
	{1<<63 - 1, "\xff\xff\xff\xff\xff\xff\xff\xff\x7f"},
	{1 << 63, "\x80\x80\x80\x80\x80\x80\x80\x80\x80\x01"},
	{1<<63 + 1, "\x81\x80\x80\x80\x80\x80\x80\x80\x80\x01"},
	{math.MaxUint64 - 1, "\xfe\xff\xff\xff\xff\xff\xff\xff\xff\x01"},
	{math.MaxUint64, "\xff\xff\xff\xff\xff\xff\xff\xff\xff\x01"},
	{0x0102030405060708, "\x88\x8e\x98\xa8\xc0\xe0\x80\x81\x01"},
	{0xfedcba9876543210, "\x90\xe4\xd0\xb2\x87\xd3\xae\xee\xfe\x01"},
}

// numbers returns the written ones, those around each power of two, and some of each length.
func numbers() []uint64 {
	var list []uint64
	for _, w := range written {
		list = append(list, w.x)
	}
	for i := range 64 {
		p := uint64(1) << i
		list = append(list, p-2, p-1, p, p+1, p|1<<63, ^p)
	}
	r := rand.New(rand.NewSource(7))
	for range 20000 {
		list = append(list, r.Uint64()>>r.Intn(64))
	}
	return list
}

// define returns the bytes of a number as the chapter defines them: the groups, without the highest ones that are 0, and 128 added to all but the last.
func define(x uint64) string {
	var groups []byte
	for i := range 10 {
		groups = append(groups, byte(x>>(7*i)%128))
	}
	for len(groups) > 1 && groups[len(groups)-1] == 0 {
		groups = groups[:len(groups)-1]
	}
	for i := range len(groups) - 1 {
		groups[i] += 128
	}
	return string(groups)
}

// P7.1: Put returns the bytes of a number.
func TestPutWritten(t *testing.T) {
	for _, w := range written {
		if got := Put(w.x); got != w.b {
			t.Errorf("Put(%d) = %x, want %x", w.x, got, w.b)
		}
	}
}

// P7.1: Size returns how many bytes a number has.
func TestSizeWritten(t *testing.T) {
	for _, w := range written {
		if got := Size(w.x); got != len(w.b) {
			t.Errorf("Size(%d) = %d, want %d", w.x, got, len(w.b))
		}
	}
}

// P7.1: the number of bytes grows at each power of 2^7, and there alone.
func TestSizeGrowsAtPowers(t *testing.T) {
	for n := 1; n <= 9; n++ {
		p := uint64(1) << (7 * n)
		if Size(p-1) != n || len(Put(p-1)) != n {
			t.Errorf("2^%d - 1 has %d bytes (%x), want %d", 7*n, Size(p-1), Put(p-1), n)
		}
		if Size(p) != n+1 || len(Put(p)) != n+1 {
			t.Errorf("2^%d has %d bytes (%x), want %d", 7*n, Size(p), Put(p), n+1)
		}
	}
	if Size(0) != 1 || Size(math.MaxUint64) != 10 {
		t.Errorf("Size of the least and the greatest number: %d, %d", Size(0), Size(math.MaxUint64))
	}
}

// P7.1: Put and Size agree with the definition and with the library's varints.
func TestPutAndSizeAgainstDefinition(t *testing.T) {
	for _, x := range numbers() {
		want := define(x)
		if library := string(binary.AppendUvarint(nil, x)); library != want {
			t.Fatalf("the definition's %x is not the library's %x", want, library)
		}
		if got := Put(x); got != want {
			t.Errorf("Put(%d) = %x, want %x", x, got, want)
		}
		if got := Size(x); got != len(want) {
			t.Errorf("Size(%d) = %d, want %d", x, got, len(want))
		}
	}
}

// P7.2: Take returns the number and how many bytes it has.
func TestTakeWritten(t *testing.T) {
	for _, w := range written {
		if x, n, err := Take(w.b); x != w.x || n != len(w.b) || err != api.OK {
			t.Errorf("Take(%x) = %d, %d, %v, want %d, %d, ok", w.b, x, n, err, w.x, len(w.b))
		}
	}
}

// refused are strings that start with no number, and their errors, written out.
var refused = []struct {
	b    string
	want api.Errno
}{
	{"", api.ErrShort},
	{"\x80", api.ErrShort},
	{"\xff", api.ErrShort},
	{"\x81\x80", api.ErrShort},
	{"\xac\x82", api.ErrShort},
	// Nine bytes are not ten: whatever they are, the string just ends too early.
	{zeros(9, ""), api.ErrShort},
	{full(9, ""), api.ErrShort},
	// Ten bytes without a last one: both ErrForm and, if nothing follows, ErrShort could apply.
	{zeros(10, ""), api.ErrForm},
	{full(10, ""), api.ErrForm},
	{full(9, "\x80"), api.ErrForm},
	{zeros(9, "\x81"), api.ErrForm},
	{zeros(11, ""), api.ErrForm},
	{full(10, "\x00"), api.ErrForm},
	{full(10, "\x01"), api.ErrForm},
	{full(10, "\x02"), api.ErrForm},
	{zeros(10, "\x7f and more"), api.ErrForm},
	{full(1000, ""), api.ErrForm},
	{full(1000, "\x01"), api.ErrForm},
	// A last byte 0 after others: a shorter encoding exists.
	{"\x80\x00", api.ErrForm},
	{"\xff\x00", api.ErrForm},
	{"\xac\x82\x00", api.ErrForm},
	{"\x80\x00\x01", api.ErrForm},
	{"\x80\x00\x80", api.ErrForm},
	{zeros(8, "\x00"), api.ErrForm},
	{full(8, "\x00"), api.ErrForm},
	{zeros(9, "\x00"), api.ErrForm},
	{full(9, "\x00"), api.ErrForm},
	{full(9, "\x00\x01"), api.ErrForm},
	// A tenth byte that contains more than the one bit that is left.
	{zeros(9, "\x02"), api.ErrRange},
	{full(9, "\x02"), api.ErrRange},
	{full(9, "\x03"), api.ErrRange},
	{zeros(9, "\x40"), api.ErrRange},
	{zeros(9, "\x7e"), api.ErrRange},
	{zeros(9, "\x7f"), api.ErrRange},
	{full(9, "\x7f"), api.ErrRange},
	{full(9, "\x02\x00"), api.ErrRange},
	{full(9, "\x02\xff"), api.ErrRange},
}

// P7.2: the first of the errors that applies, and zeros beside it (R2).
func TestTakeErrorsWritten(t *testing.T) {
	for _, r := range refused {
		if x, n, err := Take(r.b); x != 0 || n != 0 || err != r.want {
			t.Errorf("Take(%x) = %d, %d, %v, want 0, 0, %v", r.b, x, n, err, r.want)
		}
	}
}

// P7.2: strings of one to nine bytes that end before a byte below 128; also each number's bytes without the last one.
func TestTakeShort(t *testing.T) {
	for n := range 10 {
		for _, b := range []string{zeros(n, ""), full(n, ""), strings.Repeat("\xd5", n)} {
			if x, size, err := Take(b); x != 0 || size != 0 || err != api.ErrShort {
				t.Errorf("Take(%x) = %d, %d, %v, want 0, 0, short", b, x, size, err)
			}
		}
	}
	for _, w := range written {
		for n := range w.b {
			if x, size, err := Take(w.b[:n]); x != 0 || size != 0 || err != api.ErrShort {
				t.Errorf("Take(%x) = %d, %d, %v, want 0, 0, short", w.b[:n], x, size, err)
			}
		}
	}
}

// P7.2: after one to eight bytes of 128 or more, each last byte but 0 is allowed.
func TestTakeLastByte(t *testing.T) {
	for n := 1; n <= 8; n++ {
		for c := range 128 {
			b := full(n, string([]byte{byte(c)}))
			x, size, err := Take(b)
			if c == 0 {
				if x != 0 || size != 0 || err != api.ErrForm {
					t.Errorf("Take(%x) = %d, %d, %v, want 0, 0, form", b, x, size, err)
				}
				continue
			}
			want := uint64(1)<<(7*n) - 1 + uint64(c)<<(7*n)
			if x != want || size != n+1 || err != api.OK {
				t.Errorf("Take(%x) = %d, %d, %v, want %d, %d, ok", b, x, size, err, want, n+1)
			}
		}
	}
}

// P7.2: of the 256 tenth bytes, 1 alone is allowed.
func TestTakeTenthByte(t *testing.T) {
	for c := range 256 {
		want, size, err := uint64(0), 0, api.OK
		switch {
		case c >= 128 || c == 0:
			err = api.ErrForm
		case c == 1:
			want, size = math.MaxUint64, 10
		default:
			err = api.ErrRange
		}
		for _, after := range []string{"", "\x00", "\x01", "\x80", "\xff"} {
			b := full(9, string([]byte{byte(c)})+after)
			if x, n, e := Take(b); x != want || n != size || e != err {
				t.Errorf("Take(%x) = %d, %d, %v, want %d, %d, %v", b, x, n, e, want, size, err)
			}
		}
	}
}

// expect returns what Take answers, check by check in the chapter's order.
func expect(b string) (uint64, int, api.Errno) {
	end := 0
	for end < len(b) && b[end] >= 128 {
		end++
	}
	size := end + 1
	switch {
	case end >= 10:
		return 0, 0, api.ErrForm
	case end == len(b):
		return 0, 0, api.ErrShort
	case size > 1 && b[end] == 0:
		return 0, 0, api.ErrForm
	case size == 10 && b[end] > 1:
		return 0, 0, api.ErrRange
	}
	var x uint64
	for i := end; i >= 0; i-- {
		x = x*128 + uint64(b[i]%128)
	}
	return x, size, api.OK
}

// P7.2: all strings of at most four bytes that decide something, such strings behind up to 12 equal bytes, and random ones.
func TestTakeAgainstChecks(t *testing.T) {
	for _, length := range []int{0, 1, 2, 3, 4} {
		everyString("\x00\x01\x02\x7f\x80\x81\xff", length, func(b string) { agree(t, b) })
	}
	for length := range 13 {
		for _, c := range []string{"\x80", "\xff"} {
			everyString("\x00\x01\x02\x7f\x80\xff", 2, func(b string) { agree(t, strings.Repeat(c, length)+b) })
		}
	}
	r := rand.New(rand.NewSource(77))
	for range 20000 {
		b := make([]byte, r.Intn(14))
		for i := range b {
			b[i] = byte(r.Intn(256))
			if r.Intn(8) > 0 {
				b[i] |= 128
			}
		}
		agree(t, string(b))
	}
}

// everyString calls f with each string of that length of these bytes.
func everyString(of string, length int, f func(string)) {
	if length == 0 {
		f("")
		return
	}
	everyString(of, length-1, func(b string) {
		for i := range len(of) {
			f(b + of[i:i+1])
		}
	})
}

// agree checks that Take answers what the checks say.
func agree(t *testing.T, b string) {
	t.Helper()
	x, n, err := Take(b)
	if wantX, wantN, want := expect(b); x != wantX || n != wantN || err != want {
		t.Errorf("Take(%x) = %d, %d, %v, want %d, %d, %v", b, x, n, err, wantX, wantN, want)
	}
}

// P7.3: Take inverts Put, whatever follows.
func TestTakeInvertsPut(t *testing.T) {
	after := []string{"", "\x00", "\x01", "\x7f", "\x80", "\xff", "\x80\x00", "z", full(12, ""), zeros(12, "\x00")}
	for _, x := range numbers() {
		for _, a := range after {
			b := Put(x)
			if y, n, err := Take(b + a); y != x || n != len(b) || err != api.OK {
				t.Errorf("Take(%x) = %d, %d, %v, want %d, %d, ok", b+a, y, n, err, x, len(b))
			}
		}
	}
}

// P7.3: what Take accepts is what Put returns: no number has two strings.
func TestPutInvertsTake(t *testing.T) {
	for _, length := range []int{1, 2, 3} {
		everyString("\x00\x01\x02\x3f\x40\x7f\x80\x81\xbf\xc0\xfe\xff", length, func(b string) {
			if x, n, err := Take(b); err == api.OK && Put(x) != b[:n] {
				t.Errorf("Take(%x) = %d of %d bytes, but Put(%d) = %x", b, x, n, x, Put(x))
			}
		})
	}
}

// P7.3: different numbers have different bytes, and none's bytes start with another's.
func TestDifferentBytes(t *testing.T) {
	owner := map[string]uint64{}
	for x := range uint64(70000) {
		owner[Put(x)] = x
	}
	if len(owner) != 70000 {
		t.Errorf("70000 numbers have %d strings", len(owner))
	}
	for _, x := range numbers() {
		b := Put(x)
		if y, taken := owner[b]; taken && y != x {
			t.Errorf("%d and %d have the bytes %x", x, y, b)
		}
		owner[b] = x
		for n := 1; n < len(b); n++ {
			if y, taken := owner[b[:n]]; taken {
				t.Errorf("the bytes of %d, %x, start with those of %d", x, b, y)
			}
		}
	}
}

// The chapter's examples.
func TestExamples(t *testing.T) {
	if got := Put(300); got != string([]byte{172, 2}) {
		t.Errorf("Put(300) = %x", got)
	}
	if x, n, err := Take(string([]byte{128, 0})); x != 0 || n != 0 || err != api.ErrForm {
		t.Errorf("Take of 128, 0: %d, %d, %v", x, n, err)
	}
	if x, n, err := Take(string([]byte{128})); x != 0 || n != 0 || err != api.ErrShort {
		t.Errorf("Take of 128: %d, %d, %v", x, n, err)
	}
}

// P7.2 and P7.3, for whatever bytes.
func FuzzTake(f *testing.F) {
	for _, w := range written {
		f.Add(w.b)
	}
	for _, r := range refused {
		f.Add(r.b)
	}
	f.Fuzz(func(t *testing.T, b string) {
		agree(t, b)
		if x, n, err := Take(b); err == api.OK && (Put(x) != b[:n] || Size(x) != n) {
			t.Errorf("Take(%x) = %d of %d bytes, but Put is %x and Size %d", b, x, n, Put(x), Size(x))
		}
	})
}
