package head

import (
	"bytes"
	"encoding/binary"
	"math"
	"math/rand"
	"strings"
	"testing"

	"milepost/api"
	"milepost/cur"
)

// size is how many bytes a header has, by the document.
const size = 76

// errnos are all errors, and numbers that are not named.
var errnos = []api.Errno{
	api.ErrShort, api.ErrForm, api.ErrRange, api.ErrBig, api.ErrFull, api.ErrNone, api.ErrAnchor, api.ErrHeight,
	api.ErrWork, api.ErrLink, api.ErrTail, api.ErrRoot, api.ErrConfig, api.ErrTx, api.ErrPlace, 16, -1, math.MinInt, math.MaxInt,
}

// fill returns a hash all of whose bytes are b.
func fill(b byte) api.Hash {
	return api.Hash(bytes.Repeat([]byte{b}, 32))
}

// count returns a hash whose bytes count up from first.
func count(first byte) api.Hash {
	var h api.Hash
	for i := range h {
		h[i] = first + byte(i)
	}
	return h
}

// zeros returns n bytes 0.
func zeros(n int) string { return strings.Repeat("\x00", n) }

// ones returns n bytes 255.
func ones(n int) string { return strings.Repeat("\xff", n) }

// alone returns n bytes, of which the one at index i is b, and the others are 0.
func alone(n, i int, b byte) string {
	return zeros(i) + string([]byte{b}) + zeros(n-i-1)
}

// written are headers and their bytes, written out.
var written = []struct {
	what string
	h    api.Header
	b    string
}{
	{"the zero header", api.Header{}, zeros(76)},
	{"the greatest number in each field", api.Header{Height: math.MaxUint32, Links: fill(255), Txs: fill(255), Nonce: math.MaxUint64}, ones(76)},
	{"Height 1", api.Header{Height: 1}, "\x00\x00\x00\x01" + zeros(72)},
	{"Height 258", api.Header{Height: 258}, "\x00\x00\x01\x02" + zeros(72)},
	{"the top bit of Height", api.Header{Height: 1 << 31}, "\x80\x00\x00\x00" + zeros(72)},
	{"Height of four bytes", api.Header{Height: 0x01020304}, "\x01\x02\x03\x04" + zeros(72)},
	{"the greatest Height", api.Header{Height: math.MaxUint32}, ones(4) + zeros(72)},
	{"one less than the greatest Height", api.Header{Height: math.MaxUint32 - 1}, "\xff\xff\xff\xfe" + zeros(72)},
	{"Links alone", api.Header{Links: fill(255)}, zeros(4) + ones(32) + zeros(40)},
	{"Links that count", api.Header{Links: count(1)}, zeros(4) + "\x01\x02\x03\x04\x05\x06\x07\x08\x09\x0a\x0b\x0c\x0d\x0e\x0f\x10\x11\x12\x13\x14\x15\x16\x17\x18\x19\x1a\x1b\x1c\x1d\x1e\x1f\x20" + zeros(40)},
	{"Txs alone", api.Header{Txs: fill(255)}, zeros(36) + ones(32) + zeros(8)},
	{"Txs that count", api.Header{Txs: count(0xc0)}, zeros(36) + "\xc0\xc1\xc2\xc3\xc4\xc5\xc6\xc7\xc8\xc9\xca\xcb\xcc\xcd\xce\xcf\xd0\xd1\xd2\xd3\xd4\xd5\xd6\xd7\xd8\xd9\xda\xdb\xdc\xdd\xde\xdf" + zeros(8)},
	{"Nonce 1", api.Header{Nonce: 1}, zeros(75) + "\x01"},
	{"Nonce 300", api.Header{Nonce: 300}, zeros(74) + "\x01\x2c"},
	{"Nonce 2^32", api.Header{Nonce: 1 << 32}, zeros(68) + "\x00\x00\x00\x01\x00\x00\x00\x00"},
	{"the top bit of Nonce", api.Header{Nonce: 1 << 63}, zeros(68) + "\x80" + zeros(7)},
	{"Nonce of eight bytes", api.Header{Nonce: 0x0102030405060708}, zeros(68) + "\x01\x02\x03\x04\x05\x06\x07\x08"},
	{"the greatest Nonce", api.Header{Nonce: math.MaxUint64}, zeros(68) + ones(8)},
	{"one less than the greatest Nonce", api.Header{Nonce: math.MaxUint64 - 1}, zeros(68) + ones(7) + "\xfe"},
	{"each field another byte", api.Header{Height: 0x11111111, Links: fill(0x22), Txs: fill(0x33), Nonce: 0x4444444444444444}, strings.Repeat("\x11", 4) + strings.Repeat("\x22", 32) + strings.Repeat("\x33", 32) + strings.Repeat("\x44", 8)},
	{"bytes that look like text", api.Header{Height: 0x61626364, Links: fill('-'), Txs: fill(' '), Nonce: 0x3031323334353637}, "abcd" + strings.Repeat("-", 32) + strings.Repeat(" ", 32) + "01234567"},
	{"all bytes that are no UTF-8", api.Header{Height: 0xc3c3c3c3, Links: fill(0xa4), Txs: fill(0xed), Nonce: 0x8080808080808080}, strings.Repeat("\xc3", 4) + strings.Repeat("\xa4", 32) + strings.Repeat("\xed", 32) + strings.Repeat("\x80", 8)},
}

// define returns the bytes of a header as the chapter defines them, by the library.
func define(h api.Header) string {
	b := binary.BigEndian.AppendUint32(nil, h.Height)
	b = append(b, h.Links[:]...)
	b = append(b, h.Txs[:]...)
	return string(binary.BigEndian.AppendUint64(b, h.Nonce))
}

// parse returns the header of 76 bytes, by the library.
func parse(b string) api.Header {
	s := []byte(b)
	return api.Header{
		Height: binary.BigEndian.Uint32(s[:4]),
		Links:  api.Hash(s[4:36]),
		Txs:    api.Hash(s[36:68]),
		Nonce:  binary.BigEndian.Uint64(s[68:76]),
	}
}

// noise returns n bytes, none of which is 0, so that a byte that is kept where none may be is seen.
func noise(r *rand.Rand, n int) string {
	b := make([]byte, n)
	for i := range b {
		b[i] = byte(1 + r.Intn(255))
	}
	return string(b)
}

// anyBytes returns n bytes.
func anyBytes(r *rand.Rand, n int) string {
	b := make([]byte, n)
	r.Read(b)
	return string(b)
}

// lengths are numbers of bytes that are no header's: all that are fewer, and some that are more.
func lengths() (fewer, more []int) {
	for n := range size {
		fewer = append(fewer, n)
	}
	for n := size + 1; n <= 4*size; n++ {
		more = append(more, n)
	}
	return fewer, append(more, 1000, 1<<16, 1<<20)
}

// check compares what a cursor holds with what is wanted: what remains, and the error.
func check(t *testing.T, what string, c *cur.Cur, rest string, err api.Errno) {
	t.Helper()
	done := err
	if err == api.OK && rest != "" {
		done = api.ErrForm
	}
	if c.Left() != len(rest) || c.Err() != err || c.Done() != done {
		t.Errorf("%s: Left, Err, Done = %d, %v, %v, want %d, %v, %v", what, c.Left(), c.Err(), c.Done(), len(rest), err, done)
	}
	if got := c.Raw(c.Left()); got != rest {
		t.Errorf("%s: %x remains, want %x", what, got, rest)
	}
}

// P17.1: the bytes of headers, written out.
func TestBytesWritten(t *testing.T) {
	for _, w := range written {
		if got := Bytes(w.h); got != w.b {
			t.Errorf("%s: Bytes = %x, want %x", w.what, got, w.b)
		}
	}
}

// P17.1: the chapter's example, and HeadSize.
func TestBytesExample(t *testing.T) {
	got := Bytes(api.Header{})
	if len(got) != 76 || strings.Count(got, "\x00") != 76 {
		t.Errorf("Bytes of the zero header = %x", got)
	}
	if api.HeadSize != size {
		t.Errorf("HeadSize = %d", api.HeadSize)
	}
}

// P17.1: each byte of Height and Nonce, with each value, in its place.
func TestBytesNumbers(t *testing.T) {
	for b := range 256 {
		for i := range 4 {
			h := api.Header{Height: uint32(b) << (24 - 8*i)}
			if got, want := Bytes(h), alone(size, i, byte(b)); got != want {
				t.Errorf("Bytes of Height %x = %x, want %x", h.Height, got, want)
			}
		}
		for i := range 8 {
			h := api.Header{Nonce: uint64(b) << (56 - 8*i)}
			if got, want := Bytes(h), alone(size, 68+i, byte(b)); got != want {
				t.Errorf("Bytes of Nonce %x = %x, want %x", h.Nonce, got, want)
			}
		}
	}
}

// P17.1: each byte of Links and Txs, with each value, in its place.
func TestBytesHashes(t *testing.T) {
	for b := range 256 {
		for i := range 32 {
			var x api.Hash
			x[i] = byte(b)
			if got, want := Bytes(api.Header{Links: x}), alone(size, 4+i, byte(b)); got != want {
				t.Errorf("Bytes of Links %x = %x, want %x", x, got, want)
			}
			if got, want := Bytes(api.Header{Txs: x}), alone(size, 36+i, byte(b)); got != want {
				t.Errorf("Bytes of Txs %x = %x, want %x", x, got, want)
			}
		}
	}
}

// P17.1: the bytes of many headers, against the library.
func TestBytesModel(t *testing.T) {
	r := rand.New(rand.NewSource(17))
	for range 5000 {
		h := parse(anyBytes(r, size))
		if got, want := Bytes(h), define(h); got != want {
			t.Errorf("Bytes of %v = %x, want %x", h, got, want)
		}
	}
}

// P17.1: Bytes changes no header, and later changes of a header do not change what it returned.
func TestBytesChangesNothing(t *testing.T) {
	for _, w := range written {
		h := w.h
		got := Bytes(h)
		if h != w.h {
			t.Errorf("%s: Bytes changed it to %v", w.what, h)
		}
		h.Height++
		h.Links[0]++
		h.Txs[31]++
		h.Nonce--
		if got != w.b {
			t.Errorf("%s: what Bytes returned is now %x", w.what, got)
		}
		if again := Bytes(w.h); again != w.b {
			t.Errorf("%s: the second time Bytes = %x", w.what, again)
		}
	}
}

// P17.1: Get reads headers that are written out, whatever follows.
func TestGetWritten(t *testing.T) {
	for _, w := range written {
		for _, rest := range []string{"", "\x00", "x", zeros(75), ones(76), w.b, w.b + w.b, strings.Repeat("abc", 1000)} {
			c := cur.Read(w.b + rest)
			if got := Get(c); got != w.h {
				t.Errorf("%s: Get = %v, want %v", w.what, got, w.h)
			}
			check(t, w.what, c, rest, api.OK)
		}
	}
}

// P17.1: Get reads each byte, with each value, into its field alone.
func TestGetEachByte(t *testing.T) {
	for b := range 256 {
		for i := range size {
			s := alone(size, i, byte(b))
			c := cur.Read(s)
			if got, want := Get(c), parse(s); got != want {
				t.Errorf("Get of byte %d at %d = %v, want %v", b, i, got, want)
			}
			check(t, "76 bytes", c, "", api.OK)
		}
	}
}

// P17.1: Get of too few bytes.
func TestGetShort(t *testing.T) {
	r := rand.New(rand.NewSource(18))
	fewer, _ := lengths()
	for _, n := range fewer {
		for _, b := range []string{zeros(n), ones(n), noise(r, n)} {
			c := cur.Read(b)
			if got := Get(c); got != (api.Header{}) {
				t.Errorf("Get of %d bytes = %v", n, got)
			}
			check(t, "too few bytes", c, "", api.ErrShort)
		}
	}
}

// P17.1: Get at each distance from the front; what was read before does not count.
func TestGetFurtherOn(t *testing.T) {
	r := rand.New(rand.NewSource(19))
	for skip := range 3 * size {
		for _, n := range []int{0, 1, size - 1, size, size + 1, 2 * size} {
			b := noise(r, skip+n)
			c := cur.Read(b)
			c.Raw(skip)
			want, rest, err := api.Header{}, "", api.ErrShort
			if n >= size {
				want, rest, err = parse(b[skip:skip+size]), b[skip+size:], api.OK
			}
			if got := Get(c); got != want {
				t.Errorf("after %d bytes, Get of %d = %v, want %v", skip, n, got, want)
			}
			check(t, "further on", c, rest, err)
		}
	}
}

// P17.1: Get reads headers one after another, until too few bytes remain; then no call reads any.
func TestGetInTurn(t *testing.T) {
	r := rand.New(rand.NewSource(20))
	_, more := lengths()
	for _, n := range more[:3*size] {
		b := noise(r, n)
		c := cur.Read(b)
		for ; len(b) >= size; b = b[size:] {
			if got, want := Get(c), parse(b[:size]); got != want {
				t.Errorf("Get in turn = %v, want %v", got, want)
			}
			if c.Left() != len(b)-size || c.Err() != api.OK {
				t.Errorf("Get in turn: Left, Err = %d, %v", c.Left(), c.Err())
			}
		}
		for range 3 {
			if got := Get(c); got != (api.Header{}) {
				t.Errorf("Get at the end = %v", got)
			}
			check(t, "at the end", c, "", api.ErrShort)
		}
	}
}

// P17.1: Get between reads of other kinds takes 76 bytes, no more and no fewer.
func TestGetBetween(t *testing.T) {
	h := api.Header{Height: 258, Links: count(3), Txs: count(100), Nonce: 7}
	c := cur.Read("\x09" + define(h) + "\xac\x02" + define(h) + "\x02ab" + "z")
	if got := c.Byte(); got != 9 {
		t.Errorf("before a header %d is read", got)
	}
	if got := Get(c); got != h {
		t.Errorf("Get = %v, want %v", got, h)
	}
	if got := c.Num(300); got != 300 {
		t.Errorf("after a header %d is read", got)
	}
	if got := Get(c); got != h {
		t.Errorf("the second Get = %v, want %v", got, h)
	}
	if got := c.Text(2); got != "ab" {
		t.Errorf("after the second header %q is read", got)
	}
	check(t, "between", c, "z", api.OK)
}

// P17.1: Get on a cursor that has an error: the zero header, and the first error stays.
func TestGetAfterError(t *testing.T) {
	for _, e := range errnos {
		for _, b := range []string{"", "a", ones(75), ones(76), ones(77), ones(200)} {
			c := cur.Read(b)
			c.Fail(e)
			for range 2 {
				if got := Get(c); got != (api.Header{}) {
					t.Errorf("Get after %v = %v", e, got)
				}
				check(t, "Get after an error", c, "", e)
			}
		}
	}
}

// P17.1: the error of an earlier read stays as well, and that of Get stays before a later one.
func TestGetFirstError(t *testing.T) {
	c := cur.Read("\x05" + ones(size))
	c.Num(4)
	if got := Get(c); got != (api.Header{}) {
		t.Errorf("Get after Num = %v", got)
	}
	check(t, "Get after Num", c, "", api.ErrRange)
	c = cur.Read(ones(size - 1))
	Get(c)
	c.Fail(api.ErrTx)
	check(t, "Fail after Get", c, "", api.ErrShort)
}

// P17.1: a failure that is none leaves Get all bytes.
func TestGetAfterOK(t *testing.T) {
	c := cur.Read(ones(size + 1))
	c.Fail(api.OK)
	if got, want := Get(c), parse(ones(size)); got != want {
		t.Errorf("Get after Fail(OK) = %v, want %v", got, want)
	}
	check(t, "Get after Fail(OK)", c, "\xff", api.OK)
}

// P17.1: Get on a cursor that is nil.
func TestGetNil(t *testing.T) {
	var c *cur.Cur
	if got := Get(c); got != (api.Header{}) {
		t.Errorf("Get of nil = %v", got)
	}
	check(t, "nil", c, "", api.ErrNone)
}

// P17.1: Get on a zero cursor, which reads an empty string.
func TestGetZero(t *testing.T) {
	var c cur.Cur
	if got := Get(&c); got != (api.Header{}) {
		t.Errorf("Get of a zero cursor = %v", got)
	}
	check(t, "a zero cursor", &c, "", api.ErrShort)
}

// P17.1: Get changes nothing but its cursor.
func TestGetChangesNothing(t *testing.T) {
	r := rand.New(rand.NewSource(21))
	b := noise(r, 2*size)
	kept := strings.Clone(b)
	c, other := cur.Read(b), cur.Read(b)
	first := Get(c)
	first.Links[0]++
	check(t, "the other cursor", other, kept, api.OK)
	if got, want := Get(c), parse(kept[size:]); got != want {
		t.Errorf("the second Get = %v, want %v", got, want)
	}
	if b != kept {
		t.Errorf("Get changed the string to %x", b)
	}
	if got, want := Get(cur.Read(b)), parse(kept[:size]); got != want {
		t.Errorf("Get of a new cursor = %v, want %v", got, want)
	}
}

// P17.1: Take of headers that are written out.
func TestTakeWritten(t *testing.T) {
	for _, w := range written {
		if got, err := Take(w.b); got != w.h || err != api.OK {
			t.Errorf("%s: Take = %v, %v, want %v", w.what, got, err, w.h)
		}
	}
}

// P17.1: Take of each number of bytes below 76, with the zero header beside the error.
func TestTakeShort(t *testing.T) {
	r := rand.New(rand.NewSource(22))
	fewer, _ := lengths()
	for _, n := range fewer {
		for _, b := range []string{zeros(n), ones(n), noise(r, n)} {
			if got, err := Take(b); got != (api.Header{}) || err != api.ErrShort {
				t.Errorf("Take of %d bytes = %v, %v", n, got, err)
			}
		}
	}
}

// P17.1: Take of more than 76 bytes, with the zero header beside the error.
func TestTakeLong(t *testing.T) {
	r := rand.New(rand.NewSource(23))
	_, more := lengths()
	for _, n := range more {
		for _, b := range []string{zeros(n), ones(n), noise(r, n)} {
			if got, err := Take(b); got != (api.Header{}) || err != api.ErrForm {
				t.Errorf("Take of %d bytes = %v, %v", n, got, err)
			}
		}
	}
}

// P17.1: each header's bytes with one fewer at either end, and with one more.
func TestTakeAround(t *testing.T) {
	for _, w := range written {
		for _, x := range []struct {
			b    string
			want api.Errno
		}{
			{w.b[:75], api.ErrShort},
			{w.b[1:], api.ErrShort},
			{w.b + "\x00", api.ErrForm},
			{"\x00" + w.b, api.ErrForm},
			{w.b + "\xff", api.ErrForm},
			{w.b + w.b, api.ErrForm},
		} {
			if got, err := Take(x.b); got != (api.Header{}) || err != x.want {
				t.Errorf("%s, %d bytes: Take = %v, %v, want %v", w.what, len(x.b), got, err, x.want)
			}
		}
	}
}

// P17.1: Take changes no string, and an earlier call does not count.
func TestTakeChangesNothing(t *testing.T) {
	b := define(api.Header{Height: 9, Links: count(1), Txs: count(2), Nonce: 10})
	kept := strings.Clone(b)
	for _, before := range []string{"", ones(75), ones(76), ones(77)} {
		Take(before)
		got, err := Take(b)
		if got != parse(kept) || err != api.OK {
			t.Errorf("after Take of %d bytes, Take = %v, %v", len(before), got, err)
		}
		got.Txs[5]++
		if b != kept {
			t.Errorf("Take changed the string to %x", b)
		}
	}
}

// P17.2: Take returns what Bytes was given.
func TestTakeOfBytes(t *testing.T) {
	r := rand.New(rand.NewSource(24))
	list := []api.Header{{Height: r.Uint32()}, {Links: parse(anyBytes(r, size)).Links}, {Txs: parse(anyBytes(r, size)).Txs}, {Nonce: r.Uint64()}}
	for _, w := range written {
		list = append(list, w.h)
	}
	for range 5000 {
		list = append(list, parse(anyBytes(r, size)))
	}
	for _, h := range list {
		if got, err := Take(Bytes(h)); got != h || err != api.OK {
			t.Errorf("Take of Bytes of %v = %v, %v", h, got, err)
		}
	}
}

// P17.2: Bytes of what Take returned is the string; no string of 76 bytes is rejected.
func TestBytesOfTake(t *testing.T) {
	r := rand.New(rand.NewSource(25))
	list := []string{zeros(size), ones(size)}
	for i := range size {
		for b := range 256 {
			list = append(list, alone(size, i, byte(b)))
		}
	}
	for range 5000 {
		list = append(list, anyBytes(r, size))
	}
	for _, b := range list {
		h, err := Take(b)
		if err != api.OK || Bytes(h) != b {
			t.Errorf("Bytes of Take of %x = %x, %v", b, Bytes(h), err)
		}
	}
}

// P17.2: strings that differ in one bit are those of headers that differ, and headers that differ in one bit have strings that do.
func TestEveryBitCounts(t *testing.T) {
	r := rand.New(rand.NewSource(26))
	for _, b := range []string{zeros(size), ones(size), noise(r, size)} {
		h, _ := Take(b)
		for i := range size {
			for bit := range 8 {
				s := []byte(b)
				s[i] ^= 1 << bit
				other, err := Take(string(s))
				if other == h || other != parse(string(s)) || err != api.OK {
					t.Errorf("bit %d of byte %d: Take = %v, %v", bit, i, other, err)
				}
				if Bytes(parse(string(s))) == Bytes(h) {
					t.Errorf("bit %d of byte %d: two headers have the bytes %x", bit, i, Bytes(h))
				}
			}
		}
	}
}

// P17.2: the bytes of many headers are all different, and each has 76.
func TestBytesApart(t *testing.T) {
	r := rand.New(rand.NewSource(27))
	seen := map[string]api.Header{}
	for range 2000 {
		// Few values a field, so that many headers agree in some of them.
		h := api.Header{Height: uint32(r.Intn(3)), Links: fill(byte(r.Intn(3))), Txs: fill(byte(r.Intn(3))), Nonce: uint64(r.Intn(3))}
		b := Bytes(h)
		if len(b) != size {
			t.Errorf("Bytes of %v are %d", h, len(b))
		}
		if other, ok := seen[b]; ok && other != h {
			t.Errorf("%v and %v have the bytes %x", h, other, b)
		}
		seen[b] = h
	}
	if len(seen) != 81 {
		t.Errorf("81 headers have %d strings", len(seen))
	}
}
