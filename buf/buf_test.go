package buf

import (
	"math"
	"math/rand"
	"strings"
	"testing"

	"milepost/api"
	"milepost/cur"
)

const most = math.MaxUint64

// check compares the bytes of a buffer, and their number, with what is wanted.
func check(t *testing.T, what string, b *Buf, want string) {
	t.Helper()
	if got := b.Bytes(); got != want {
		t.Errorf("%s: Bytes = %x, want %x", what, got, want)
	}
	if got := b.Len(); got != len(want) {
		t.Errorf("%s: Len = %d, want %d", what, got, len(want))
	}
}

// counting returns n bytes that count up from first.
func counting(first, n int) string {
	b := make([]byte, n)
	for i := range b {
		b[i] = byte(first + i)
	}
	return string(b)
}

// hashOf returns the hash with these bytes.
func hashOf(b string) api.Hash {
	var h api.Hash
	copy(h[:], b)
	return h
}

// call is a call of a method that appends, and the bytes that it appends, written out.
type call struct {
	what string
	do   func(*Buf)
	want string
}

// calls returns calls of each method with ordinary arguments and with those at the edges.
func calls() []call {
	long127, long128 := strings.Repeat("x", 127), counting(0, 128)
	low, high := hashOf(counting(0, 32)), hashOf(counting(224, 32))
	return []call{
		{"Raw of no string", func(b *Buf) { b.Raw() }, ""},
		{"Raw of a nil list", func(b *Buf) { b.Raw([]string(nil)...) }, ""},
		{"Raw of an empty list", func(b *Buf) { b.Raw([]string{}...) }, ""},
		{"Raw of an empty string", func(b *Buf) { b.Raw("") }, ""},
		{"Raw of empty strings", func(b *Buf) { b.Raw("", "", "") }, ""},
		{"Raw of one string", func(b *Buf) { b.Raw("abc") }, "abc"},
		{"Raw of several strings", func(b *Buf) { b.Raw("c", "ab", "\x00", "\xff\xfe") }, "cab\x00\xff\xfe"},
		{"Raw of several strings, some empty", func(b *Buf) { b.Raw("", "b", "", "a", "") }, "ba"},
		{"Raw of one string twice", func(b *Buf) { b.Raw("ab", "ab") }, "abab"},
		{"Raw of letters beyond ASCII", func(b *Buf) { b.Raw("ä") }, "\xc3\xa4"},
		{"Byte of 0", func(b *Buf) { b.Byte(0) }, "\x00"},
		{"Byte of 1", func(b *Buf) { b.Byte(1) }, "\x01"},
		{"Byte of 127", func(b *Buf) { b.Byte(127) }, "\x7f"},
		{"Byte of 128", func(b *Buf) { b.Byte(128) }, "\x80"},
		{"Byte of 255", func(b *Buf) { b.Byte(255) }, "\xff"},
		{"Num of 0", func(b *Buf) { b.Num(0) }, "\x00"},
		{"Num of 1", func(b *Buf) { b.Num(1) }, "\x01"},
		{"Num of 127", func(b *Buf) { b.Num(127) }, "\x7f"},
		{"Num of 128", func(b *Buf) { b.Num(128) }, "\x80\x01"},
		{"Num of 300", func(b *Buf) { b.Num(300) }, "\xac\x02"},
		{"Num of 16383", func(b *Buf) { b.Num(16383) }, "\xff\x7f"},
		{"Num of 16384", func(b *Buf) { b.Num(16384) }, "\x80\x80\x01"},
		{"Num of 2^32", func(b *Buf) { b.Num(1 << 32) }, "\x80\x80\x80\x80\x10"},
		{"Num of 2^63 - 1", func(b *Buf) { b.Num(1<<63 - 1) }, "\xff\xff\xff\xff\xff\xff\xff\xff\x7f"},
		{"Num of 2^63", func(b *Buf) { b.Num(1 << 63) }, "\x80\x80\x80\x80\x80\x80\x80\x80\x80\x01"},
		{"Num of 2^64 - 1", func(b *Buf) { b.Num(most) }, "\xff\xff\xff\xff\xff\xff\xff\xff\xff\x01"},
		{"Hash of no hash", func(b *Buf) { b.Hash() }, ""},
		{"Hash of a nil list", func(b *Buf) { b.Hash([]api.Hash(nil)...) }, ""},
		{"Hash of an empty list", func(b *Buf) { b.Hash([]api.Hash{}...) }, ""},
		{"Hash of the zero hash", func(b *Buf) { b.Hash(api.Hash{}) }, strings.Repeat("\x00", 32)},
		{"Hash of one hash", func(b *Buf) { b.Hash(low) }, counting(0, 32)},
		{"Hash of two hashes", func(b *Buf) { b.Hash(high, low) }, counting(224, 64)},
		{"Hash of three hashes", func(b *Buf) { b.Hash(low, low, high) }, counting(0, 32) + counting(0, 32) + counting(224, 32)},
		{"Text of an empty string", func(b *Buf) { b.Text("") }, "\x00"},
		{"Text of a zero byte", func(b *Buf) { b.Text("\x00") }, "\x01\x00"},
		{"Text of letters", func(b *Buf) { b.Text("abc") }, "\x03abc"},
		{"Text of a letter beyond ASCII", func(b *Buf) { b.Text("ä") }, "\x02\xc3\xa4"},
		{"Text of 127 bytes", func(b *Buf) { b.Text(long127) }, "\x7f" + long127},
		{"Text of 128 bytes", func(b *Buf) { b.Text(long128) }, "\x80\x01" + long128},
		{"Text of 300 bytes", func(b *Buf) { b.Text(counting(9, 300)) }, "\xac\x02" + counting(9, 300)},
	}
}

// P9.1 and P9.2: a new buffer is not nil and is empty.
func TestNew(t *testing.T) {
	b := New()
	if b == nil {
		t.Fatal("New is nil")
	}
	check(t, "a new buffer", b, "")
}

// P9.1: two new buffers do not share anything.
func TestNewTwice(t *testing.T) {
	b, c := New(), New()
	b.Raw("abc")
	check(t, "the other buffer", c, "")
	c.Raw("xy")
	check(t, "the first buffer", b, "abc")
	check(t, "the other buffer", c, "xy")
}

// P9.1: what each method appends to an empty buffer, written out.
func TestAppendToNothing(t *testing.T) {
	for _, c := range calls() {
		b := New()
		c.do(b)
		check(t, c.what, b, c.want)
	}
}

// P9.1: each method appends: what was there before stays in front.
func TestAppendToBytes(t *testing.T) {
	for _, first := range calls() {
		for _, second := range calls() {
			b := New()
			first.do(b)
			second.do(b)
			check(t, first.what+", "+second.what, b, first.want+second.want)
		}
	}
}

// P9.1: each byte.
func TestEachByte(t *testing.T) {
	b := New()
	for c := range 256 {
		b.Byte(byte(c))
		check(t, "Byte", b, counting(0, c+1))
	}
}

// P9.1: the lists that are handed in are not changed.
func TestListsAreNotChanged(t *testing.T) {
	texts, hashes := []string{"a", "", "bc"}, []api.Hash{{1}, {}, {31: 2}}
	b := New()
	b.Byte(9)
	b.Raw(texts...)
	b.Hash(hashes...)
	b.Raw("more")
	if texts[0] != "a" || texts[1] != "" || texts[2] != "bc" {
		t.Errorf("the strings are now %q", texts)
	}
	if hashes[0] != (api.Hash{1}) || hashes[1] != (api.Hash{}) || hashes[2] != (api.Hash{31: 2}) {
		t.Errorf("the hashes are now %x", hashes)
	}
}

// P9.1: the lists that are handed in are not kept: what a caller writes to them later changes nothing.
func TestListsAreNotKept(t *testing.T) {
	texts, hashes := []string{"a", "bc"}, []api.Hash{hashOf(counting(0, 32))}
	b := New()
	b.Raw(texts...)
	b.Hash(hashes...)
	texts[0], hashes[0] = "z", api.Hash{}
	check(t, "after the lists are overwritten", b, "abc"+counting(0, 32))
}

// P9.2: Len and Bytes between appends and after them; what Bytes returned earlier stays as it was.
func TestBytesStay(t *testing.T) {
	b := New()
	want := ""
	var returned, wanted []string
	for range 5 {
		for _, c := range calls() {
			c.do(b)
			want += c.want
			check(t, c.what, b, want)
			returned, wanted = append(returned, b.Bytes()), append(wanted, strings.Clone(want))
		}
	}
	for i := range returned {
		if returned[i] != wanted[i] {
			t.Errorf("what Bytes returned after call %d has changed", i)
		}
	}
}

// P9.2: what Bytes returns stays also where every next byte fits into the memory that is there already.
func TestBytesStayByteByByte(t *testing.T) {
	b := New()
	var returned []string
	for i := range 600 {
		returned = append(returned, b.Bytes())
		b.Byte(byte(i))
	}
	for i, got := range returned {
		if got != counting(0, i) {
			t.Errorf("what Bytes returned at %d bytes is %x", i, got)
		}
	}
}

// P9.2: Len and Bytes change nothing.
func TestAskingChangesNothing(t *testing.T) {
	b := New()
	for _, want := range []string{"", "ab", "abab"} {
		for range 3 {
			check(t, "asked again", b, want)
		}
		b.Raw("ab")
	}
}

// P9.2: a zero Buf is equivalent to New: before an append, and after each one.
func TestZero(t *testing.T) {
	var zero Buf
	check(t, "a zero Buf", &zero, "")
	for _, c := range calls() {
		b := new(Buf)
		c.do(b)
		check(t, c.what+" of a zero Buf", b, c.want)
	}
	want := ""
	for _, c := range calls() {
		c.do(&zero)
		want += c.want
		check(t, "one zero Buf, "+c.what, &zero, want)
	}
}

// P9.2: each method of a nil Buf does nothing and returns 0 or "".
func TestNil(t *testing.T) {
	var b *Buf
	check(t, "a nil Buf", b, "")
	for _, c := range calls() {
		c.do(b)
		check(t, c.what+" of a nil Buf", b, "")
	}
}

// P9.2: many bytes, in few and in many appends.
func TestManyBytes(t *testing.T) {
	long := strings.Repeat("0123456789abcdef", 1<<16)
	b := New()
	b.Text(long)
	b.Raw(long, "z", long)
	check(t, "long strings", b, "\x80\x80\x40"+long+long+"z"+long)
	b = New()
	for i := range len(long) {
		b.Byte(long[i])
	}
	check(t, "a long string, byte by byte", b, long)
}

// readBack is what is appended, and a check that a cursor reads the same.
type readBack struct {
	put  func(*Buf)
	same func(*cur.Cur) bool
}

// rawBack, byteBack, numBack, hashBack and textBack return how one value is appended and read back.
func rawBack(l ...string) readBack {
	return readBack{func(b *Buf) { b.Raw(l...) }, func(c *cur.Cur) bool {
		same := true
		for _, s := range l {
			same = c.Raw(len(s)) == s && same
		}
		return same
	}}
}

func byteBack(x byte) readBack {
	return readBack{func(b *Buf) { b.Byte(x) }, func(c *cur.Cur) bool { return c.Byte() == x }}
}

func numBack(x uint64) readBack {
	return readBack{func(b *Buf) { b.Num(x) }, func(c *cur.Cur) bool { return c.Num(x) == x }}
}

func hashBack(l ...api.Hash) readBack {
	return readBack{func(b *Buf) { b.Hash(l...) }, func(c *cur.Cur) bool {
		same := true
		for _, h := range l {
			same = c.Hash() == h && same
		}
		return same
	}}
}

func textBack(s string) readBack {
	return readBack{func(b *Buf) { b.Text(s) }, func(c *cur.Cur) bool { return c.Text(len(s)) == s }}
}

// checkBack appends values and checks that a cursor reads them back and that nothing remains.
func checkBack(t *testing.T, b *Buf, values []readBack) {
	t.Helper()
	var ends []int
	for _, v := range values {
		v.put(b)
		ends = append(ends, b.Len())
	}
	c := cur.Read(b.Bytes())
	for i, v := range values {
		if !v.same(c) || c.Err() != api.OK {
			t.Fatalf("value %d of %d is not read back from %x: %v", i, len(values), b.Bytes(), c.Err())
		}
		if read := b.Len() - c.Left(); read != ends[i] {
			t.Fatalf("value %d of %d ends at %d, but %d bytes are read", i, len(values), ends[i], read)
		}
	}
	if c.Left() != 0 || c.Done() != api.OK {
		t.Errorf("after %d values %d bytes remain: %v", len(values), c.Left(), c.Done())
	}
}

// P9.3: a cursor reads back each value at an edge, alone and all of them one after the other, in both orders.
func TestReadBack(t *testing.T) {
	values := []readBack{
		rawBack(), rawBack(""), rawBack("abc"), rawBack("", "\x80", "", "xy"),
		hashBack(), hashBack(api.Hash{}), hashBack(hashOf(counting(224, 32)), hashOf(counting(1, 32))),
	}
	for _, x := range []byte{0, 1, 127, 128, 255} {
		values = append(values, byteBack(x))
	}
	for _, x := range []uint64{0, 1, 127, 128, 300, 16383, 16384, 1 << 32, 1<<63 - 1, 1 << 63, most - 1, most} {
		values = append(values, numBack(x))
	}
	for _, n := range []int{0, 1, 127, 128, 129, 16383, 16384} {
		values = append(values, textBack(counting(n, n)))
	}
	checkBack(t, New(), nil)
	var back []readBack
	for i, v := range values {
		checkBack(t, New(), []readBack{v})
		back = append(back, values[len(values)-1-i])
	}
	checkBack(t, New(), values)
	checkBack(t, new(Buf), back)
}

// randomString returns up to most bytes, of which many are at an edge of a varint.
func randomString(r *rand.Rand, most int) string {
	b := make([]byte, r.Intn(most+1))
	for i := range b {
		b[i] = []byte{0, 1, 127, 128, 255, byte(r.Intn(256))}[r.Intn(6)]
	}
	return string(b)
}

// randomValue returns a value of some method.
func randomValue(r *rand.Rand) readBack {
	switch r.Intn(5) {
	case 0:
		l := make([]string, r.Intn(4))
		for i := range l {
			l[i] = randomString(r, 5)
		}
		return rawBack(l...)
	case 1:
		return byteBack(byte(r.Intn(256)))
	case 2:
		return numBack(r.Uint64() >> r.Intn(64))
	case 3:
		l := make([]api.Hash, r.Intn(4))
		for i := range l {
			l[i] = hashOf(randomString(r, 32))
		}
		return hashBack(l...)
	}
	return textBack(randomString(r, 200))
}

// P9.3: mixed appends.
func TestReadBackMixed(t *testing.T) {
	r := rand.New(rand.NewSource(9))
	for range 2000 {
		values := make([]readBack, r.Intn(20))
		for i := range values {
			values[i] = randomValue(r)
		}
		checkBack(t, New(), values)
	}
}

// The chapter's example, and what a cursor reads of it.
func TestExamples(t *testing.T) {
	b := New()
	b.Num(300)
	b.Text("a")
	check(t, "Num(300) and Text of a", b, string([]byte{172, 2, 1, 97}))
	c := cur.Read(b.Bytes())
	if x, s := c.Num(300), c.Text(1); x != 300 || s != "a" || c.Done() != api.OK {
		t.Errorf("read back: %d, %q, %v", x, s, c.Done())
	}
}

// P9.1 to P9.3, for whatever values.
func FuzzBuf(f *testing.F) {
	f.Add("", byte(0), uint64(0), "", "")
	f.Add("abc", byte(255), uint64(most), counting(0, 32), counting(0, 128))
	f.Add("\x80", byte(128), uint64(128), "\xff", strings.Repeat("x", 127))
	f.Fuzz(func(t *testing.T, raw string, one byte, x uint64, sum, text string) {
		b := New()
		checkBack(t, b, []readBack{rawBack(raw), byteBack(one), numBack(x), hashBack(hashOf(sum)), textBack(text)})
		if got := b.Bytes(); !strings.HasPrefix(got, raw) || !strings.HasSuffix(got, text) || b.Len() != len(got) {
			t.Errorf("Bytes = %x, Len = %d", got, b.Len())
		}
	})
}
