package cur

import (
	"math"
	"math/rand"
	"strings"
	"testing"

	"milepost/api"
	"milepost/num"
)

const (
	least    = math.MinInt
	greatest = math.MaxInt
	most     = math.MaxUint64
)

// errnos are all errors, and numbers that are not named.
var errnos = []api.Errno{
	api.ErrShort, api.ErrForm, api.ErrRange, api.ErrBig, api.ErrFull, api.ErrNone, api.ErrAnchor, api.ErrHeight,
	api.ErrWork, api.ErrLink, api.ErrTail, api.ErrRoot, api.ErrConfig, api.ErrTx, api.ErrPlace, 16, -1, least, greatest,
}

// check compares what remains of a cursor, its error and Done with what is wanted.
func check(t *testing.T, what string, c *Cur, left int, err, done api.Errno) {
	t.Helper()
	if c.Left() != left || c.Err() != err || c.Done() != done {
		t.Errorf("%s: Left, Err, Done = %d, %v, %v, want %d, %v, %v", what, c.Left(), c.Err(), c.Done(), left, err, done)
	}
}

// checkFailed checks that a cursor has an error and no bytes.
func checkFailed(t *testing.T, what string, c *Cur, err api.Errno) {
	t.Helper()
	check(t, what, c, 0, err, err)
}

// hashOf returns the hash with these bytes.
func hashOf(b string) api.Hash {
	var h api.Hash
	copy(h[:], b)
	return h
}

// counting returns n bytes that count up from first.
func counting(first, n int) string {
	b := make([]byte, n)
	for i := range b {
		b[i] = byte(first + i)
	}
	return string(b)
}

// P8.1: a new cursor has all bytes and no error.
func TestRead(t *testing.T) {
	for _, b := range []string{"a", "\x00", "\xff\xff", "häh", counting(0, 300), strings.Repeat("x", 1<<20)} {
		c := Read(b)
		if c == nil {
			t.Fatalf("Read of %d bytes is nil", len(b))
		}
		check(t, "Read", c, len(b), api.OK, api.ErrForm)
		if got := c.Raw(len(b)); got != b {
			t.Errorf("Read of %d bytes, but other bytes are read", len(b))
		}
		check(t, "all bytes read", c, 0, api.OK, api.OK)
	}
}

// P8.1: a cursor over the empty string is not nil; nothing remains, which is no error.
func TestReadEmpty(t *testing.T) {
	c := Read("")
	if c == nil {
		t.Fatal("Read of nothing is nil")
	}
	check(t, "Read of nothing", c, 0, api.OK, api.OK)
}

// P8.1: two cursors over one string do not share anything.
func TestReadTwice(t *testing.T) {
	b := "abc"
	c, d := Read(b), Read(b)
	c.Byte()
	c.Fail(api.ErrTx)
	check(t, "the other cursor", d, 3, api.OK, api.ErrForm)
	if got := d.Raw(3); got != "abc" {
		t.Errorf("the other cursor reads %q", got)
	}
}

// P8.1: Fail with OK does nothing, before and after an error.
func TestFailOK(t *testing.T) {
	c := Read("ab")
	c.Fail(api.OK)
	check(t, "Fail(OK)", c, 2, api.OK, api.ErrForm)
	if c.Byte() != 'a' {
		t.Error("Fail(OK) has moved the cursor")
	}
	c.Fail(api.ErrLink)
	c.Fail(api.OK)
	checkFailed(t, "Fail(OK) after an error", c, api.ErrLink)
}

// P8.1 and P8.4: Fail sets each error where there is none yet, and no bytes remain; the first error is kept.
func TestFailFirst(t *testing.T) {
	for _, e := range errnos {
		for _, b := range []string{"", "a", "abc"} {
			c := Read(b)
			c.Fail(e)
			checkFailed(t, "Fail", c, e)
			for _, other := range errnos {
				c.Fail(other)
				checkFailed(t, "Fail after Fail", c, e)
			}
		}
	}
}

// P8.1: an error of a read is the first one, too.
func TestFailAfterRead(t *testing.T) {
	c := Read("a")
	c.Raw(2)
	c.Fail(api.ErrBig)
	checkFailed(t, "Fail after Raw(2)", c, api.ErrShort)
}

// P8.2: Byte reads each byte in turn.
func TestByte(t *testing.T) {
	b := counting(0, 256)
	c := Read(b)
	for i := range 256 {
		if got := c.Byte(); got != byte(i) {
			t.Errorf("byte %d is %d", i, got)
		}
		check(t, "Byte", c, 255-i, api.OK, map[bool]api.Errno{true: api.OK, false: api.ErrForm}[i == 255])
	}
}

// P8.2: Byte at the end.
func TestByteAtEnd(t *testing.T) {
	for _, b := range []string{"", "z", "\xff\xff"} {
		c := Read(b)
		for range len(b) {
			c.Byte()
		}
		check(t, "before the end", c, 0, api.OK, api.OK)
		if got := c.Byte(); got != 0 {
			t.Errorf("Byte at the end is %d", got)
		}
		checkFailed(t, "Byte at the end", c, api.ErrShort)
	}
}

// P8.2: Num with its bounds, written out; what follows is what remains.
func TestNumWritten(t *testing.T) {
	for _, w := range []struct {
		b    string
		most uint64
		want uint64
		left int
		err  api.Errno
	}{
		{"\x00", 0, 0, 0, api.OK},
		{"\x00", 1, 0, 0, api.OK},
		{"\x00", most, 0, 0, api.OK},
		{"\x00ab", 0, 0, 2, api.OK},
		{"\x01", 0, 0, 0, api.ErrRange},
		{"\x01ab", 0, 0, 0, api.ErrRange},
		{"\x01ab", 1, 1, 2, api.OK},
		{"\x02ab", 1, 0, 0, api.ErrRange},
		{"\x02\x80", 2, 2, 1, api.OK},
		{"\x7f", 127, 127, 0, api.OK},
		{"\x80\x01", 127, 0, 0, api.ErrRange},
		{"\x80\x01", 128, 128, 0, api.OK},
		{"\xac\x02\x03", 300, 300, 1, api.OK},
		{"\xac\x02\x03", 299, 0, 0, api.ErrRange},
		{"\xff\xff\xff\xff\xff\xff\xff\xff\xff\x01", most, most, 0, api.OK},
		{"\xff\xff\xff\xff\xff\xff\xff\xff\xff\x01!", most, most, 1, api.OK},
		{"\xff\xff\xff\xff\xff\xff\xff\xff\xff\x01", most - 1, 0, 0, api.ErrRange},
		{"\xff\xff\xff\xff\xff\xff\xff\xff\xff\x01", 0, 0, 0, api.ErrRange},
		{"\xfe\xff\xff\xff\xff\xff\xff\xff\xff\x01", most - 1, most - 1, 0, api.OK},
		{"\x80\x80\x80\x80\x80\x80\x80\x80\x80\x01", 1<<63 - 1, 0, 0, api.ErrRange},
		{"\x80\x80\x80\x80\x80\x80\x80\x80\x80\x01", 1 << 63, 1 << 63, 0, api.OK},
		// The errors of num.Take, whatever the bound is.
		{"", 0, 0, 0, api.ErrShort},
		{"", most, 0, 0, api.ErrShort},
		{"\x80", 0, 0, 0, api.ErrShort},
		{"\xff\xff", most, 0, 0, api.ErrShort},
		{"\x80\x00", 0, 0, 0, api.ErrForm},
		{"\x80\x00abc", most, 0, 0, api.ErrForm},
		{"\x80\x80\x80\x80\x80\x80\x80\x80\x80\x80", most, 0, 0, api.ErrForm},
		{"\xff\xff\xff\xff\xff\xff\xff\xff\xff\xff\x01", 0, 0, 0, api.ErrForm},
		{"\xff\xff\xff\xff\xff\xff\xff\xff\xff\x00", most, 0, 0, api.ErrForm},
		{"\xff\xff\xff\xff\xff\xff\xff\xff\xff\x02", most, 0, 0, api.ErrRange},
		{"\x80\x80\x80\x80\x80\x80\x80\x80\x80\x7fab", 0, 0, 0, api.ErrRange},
	} {
		c := Read(w.b)
		got := c.Num(w.most)
		if got != w.want || c.Left() != w.left || c.Err() != w.err {
			t.Errorf("Num(%d) of %x = %d, %d remain, %v, want %d, %d, %v", w.most, w.b, got, c.Left(), c.Err(), w.want, w.left, w.err)
		}
	}
}

// P8.2: numbers equal to most, and one more than it.
func TestNumAroundMost(t *testing.T) {
	r := rand.New(rand.NewSource(8))
	for range 2000 {
		x := r.Uint64() >> r.Intn(64)
		c := Read(num.Put(x) + "tail")
		if got := c.Num(x); got != x {
			t.Errorf("Num(%d) of itself is %d", x, got)
		}
		check(t, "equal to most", c, 4, api.OK, api.ErrForm)
		if got := c.Raw(4); got != "tail" {
			t.Errorf("after a number %q is read", got)
		}
		if x == 0 {
			continue
		}
		c = Read(num.Put(x) + "tail")
		if got := c.Num(x - 1); got != 0 {
			t.Errorf("Num(%d) of one more is %d", x-1, got)
		}
		checkFailed(t, "one more than most", c, api.ErrRange)
	}
}

// P8.2: Raw, written out.
func TestRawWritten(t *testing.T) {
	for _, w := range []struct {
		b    string
		n    int
		want string
		left int
		err  api.Errno
	}{
		{"abc", 0, "", 3, api.OK},
		{"abc", 1, "a", 2, api.OK},
		{"abc", 2, "ab", 1, api.OK},
		{"abc", 3, "abc", 0, api.OK},
		{"abc", 4, "", 0, api.ErrShort},
		{"abc", 1 << 32, "", 0, api.ErrShort},
		{"abc", greatest, "", 0, api.ErrShort},
		{"abc", -1, "", 0, api.ErrRange},
		{"abc", -3, "", 0, api.ErrRange},
		{"abc", -(1 << 32), "", 0, api.ErrRange},
		{"abc", least, "", 0, api.ErrRange},
		{"", 0, "", 0, api.OK},
		{"", 1, "", 0, api.ErrShort},
		{"", greatest, "", 0, api.ErrShort},
		{"", -1, "", 0, api.ErrRange},
		{"", least, "", 0, api.ErrRange},
	} {
		c := Read(w.b)
		got := c.Raw(w.n)
		if got != w.want || c.Left() != w.left || c.Err() != w.err {
			t.Errorf("Raw(%d) of %q = %q, %d remain, %v, want %q, %d, %v", w.n, w.b, got, c.Left(), c.Err(), w.want, w.left, w.err)
		}
	}
}

// P8.2: Raw of a negative n where an error is set already: that one is kept.
func TestRawNegativeAfterError(t *testing.T) {
	for _, e := range errnos {
		for _, n := range []int{-1, -2, least} {
			c := Read("abc")
			c.Fail(e)
			if got := c.Raw(n); got != "" {
				t.Errorf("Raw(%d) after an error is %q", n, got)
			}
			checkFailed(t, "Raw of a negative n after an error", c, e)
		}
	}
}

// P8.2: Raw of 0 bytes at the end is no error.
func TestRawNothingAtEnd(t *testing.T) {
	c := Read("ab")
	c.Raw(2)
	if got := c.Raw(0); got != "" {
		t.Errorf("Raw(0) at the end is %q", got)
	}
	check(t, "Raw(0) at the end", c, 0, api.OK, api.OK)
}

// P8.2: Hash of 31, 32, 33 and other numbers of bytes.
func TestHash(t *testing.T) {
	for n := range 70 {
		b := counting(1, n)
		c := Read(b)
		got := c.Hash()
		if n < 32 {
			if got != (api.Hash{}) {
				t.Errorf("Hash of %d bytes is %x", n, got)
			}
			checkFailed(t, "Hash of too few bytes", c, api.ErrShort)
			continue
		}
		if got != hashOf(b[:32]) {
			t.Errorf("Hash of %d bytes is %x", n, got)
		}
		if c.Left() != n-32 || c.Err() != api.OK || c.Raw(n-32) != b[32:] {
			t.Errorf("after Hash of %d bytes other bytes remain", n)
		}
	}
}

// P8.2: two hashes, one after the other, and a third one of which a byte is missing.
func TestHashes(t *testing.T) {
	c := Read(counting(0, 95))
	if first, second := c.Hash(), c.Hash(); first != hashOf(counting(0, 32)) || second != hashOf(counting(32, 32)) {
		t.Errorf("the hashes are %x and %x", first, second)
	}
	if third := c.Hash(); third != (api.Hash{}) {
		t.Errorf("the third hash is %x", third)
	}
	checkFailed(t, "the third hash", c, api.ErrShort)
}

// P8.2: Text, written out.
func TestTextWritten(t *testing.T) {
	long := strings.Repeat("x", 300)
	for _, w := range []struct {
		b    string
		most int
		want string
		left int
		err  api.Errno
	}{
		{"\x00", 0, "", 0, api.OK},
		{"\x00ab", 0, "", 2, api.OK},
		{"\x00ab", 9, "", 2, api.OK},
		{"\x01ab", 0, "", 0, api.ErrRange},
		{"\x01ab", 1, "a", 1, api.OK},
		{"\x02ab", 2, "ab", 0, api.OK},
		{"\x02abc", 2, "ab", 1, api.OK},
		{"\x03abc", 2, "", 0, api.ErrRange},
		{"\x02ab", greatest, "ab", 0, api.OK},
		// A negative most counts as 0.
		{"\x00ab", -1, "", 2, api.OK},
		{"\x00ab", least, "", 2, api.OK},
		{"\x01ab", -1, "", 0, api.ErrRange},
		{"\x01ab", least, "", 0, api.ErrRange},
		{"\x80\x01ab", -1, "", 0, api.ErrRange},
		// Fewer bytes than the length says; the bound is checked first.
		{"\x03ab", 3, "", 0, api.ErrShort},
		{"\x03ab", 2, "", 0, api.ErrRange},
		{"\x01", 1, "", 0, api.ErrShort},
		{"\x01", 0, "", 0, api.ErrRange},
		{"\x7fab", greatest, "", 0, api.ErrShort},
		{"\xff\xff\xff\xff\xff\xff\xff\xff\x7fab", greatest, "", 0, api.ErrShort},
		{"\xff\xff\xff\xff\xff\xff\xff\xff\x7fab", greatest - 1, "", 0, api.ErrRange},
		{"\x80\x80\x80\x80\x80\x80\x80\x80\x80\x01ab", greatest, "", 0, api.ErrRange},
		{"\xff\xff\xff\xff\xff\xff\xff\xff\xff\x01ab", greatest, "", 0, api.ErrRange},
		// The errors of num.Take.
		{"", 9, "", 0, api.ErrShort},
		{"", -1, "", 0, api.ErrShort},
		{"\x80", 9, "", 0, api.ErrShort},
		{"\x81\x00ab", 9, "", 0, api.ErrForm},
		{"\xff\xff\xff\xff\xff\xff\xff\xff\xff\x02ab", greatest, "", 0, api.ErrRange},
		// A length of two bytes.
		{"\xac\x02" + long, 300, long, 0, api.OK},
		{"\xac\x02" + long + "y", 300, long, 1, api.OK},
		{"\xac\x02" + long, 299, "", 0, api.ErrRange},
		{"\xac\x02" + long[1:], 300, "", 0, api.ErrShort},
	} {
		c := Read(w.b)
		got := c.Text(w.most)
		if got != w.want || c.Left() != w.left || c.Err() != w.err {
			t.Errorf("Text(%d) of %x = %q, %d remain, %v, want %q, %d, %v", w.most, w.b, got, c.Left(), c.Err(), w.want, w.left, w.err)
		}
	}
}

// P8.3: Left, Err and Done change nothing.
func TestAskingChangesNothing(t *testing.T) {
	c := Read("ab")
	for range 3 {
		check(t, "bytes remain", c, 2, api.OK, api.ErrForm)
	}
	if got := c.Raw(2); got != "ab" {
		t.Errorf("after asking %q is read", got)
	}
	for range 3 {
		check(t, "no byte remains", c, 0, api.OK, api.OK)
	}
	c.Byte()
	for range 3 {
		checkFailed(t, "after an error", c, api.ErrShort)
	}
}

// P8.3: Done is the error, even if bytes remained before it.
func TestDoneAfterError(t *testing.T) {
	for _, e := range errnos {
		c := Read("abc")
		c.Byte()
		c.Fail(e)
		checkFailed(t, "Done", c, e)
	}
}

// P8.3: every method of a nil Cur.
func TestNil(t *testing.T) {
	var c *Cur
	for _, e := range append([]api.Errno{api.OK}, errnos...) {
		c.Fail(e)
	}
	if c.Byte() != 0 || c.Hash() != (api.Hash{}) || c.Left() != 0 {
		t.Error("Byte, Hash or Left of a nil Cur")
	}
	for _, m := range []uint64{0, 1, most} {
		if c.Num(m) != 0 {
			t.Errorf("Num(%d) of a nil Cur", m)
		}
	}
	for _, n := range []int{0, 1, -1, least, greatest} {
		if c.Raw(n) != "" || c.Text(n) != "" {
			t.Errorf("Raw(%d) or Text(%d) of a nil Cur", n, n)
		}
	}
	check(t, "a nil Cur", c, 0, api.ErrNone, api.ErrNone)
}

// P8.3: a zero Cur reads an empty string.
func TestZero(t *testing.T) {
	var zero Cur
	check(t, "a zero Cur", &zero, 0, api.OK, api.OK)
	for i, use := range uses() {
		c, empty := new(Cur), Read("")
		if got, want := use(c), use(empty); got != want {
			t.Errorf("use %d of a zero Cur: %v, of an empty string %v", i, got, want)
		}
		check(t, "a zero Cur", c, empty.Left(), empty.Err(), empty.Done())
	}
	var c Cur
	c.Fail(api.ErrPlace)
	checkFailed(t, "Fail of a zero Cur", &c, api.ErrPlace)
	c = Cur{}
	if c.Byte() != 0 {
		t.Error("Byte of a zero Cur")
	}
	checkFailed(t, "Byte of a zero Cur", &c, api.ErrShort)
	c = Cur{}
	c.Raw(0)
	check(t, "Raw(0) of a zero Cur", &c, 0, api.OK, api.OK)
}

// zeroValues are what a failed read may answer.
var zeroValues = []any{byte(0), uint64(0), "", api.Hash{}, nil}

// uses returns calls of each method that may change a cursor, with ordinary and with extreme arguments.
func uses() []func(*Cur) any {
	list := []func(*Cur) any{
		func(c *Cur) any { return c.Byte() },
		func(c *Cur) any { return c.Hash() },
		func(c *Cur) any { c.Fail(api.OK); return nil },
	}
	for _, m := range []uint64{0, 1, 127, 300, most} {
		list = append(list, func(c *Cur) any { return c.Num(m) })
	}
	for _, n := range []int{0, 1, 2, 31, 32, 33, 127, greatest, -1, least} {
		list = append(list, func(c *Cur) any { return c.Raw(n) }, func(c *Cur) any { return c.Text(n) })
	}
	for _, e := range errnos {
		list = append(list, func(c *Cur) any { c.Fail(e); return nil })
	}
	return list
}

// P8.4: after an error each method returns a zero value, and nothing changes.
func TestAfterError(t *testing.T) {
	failures := []struct {
		b    string
		fail func(*Cur)
		err  api.Errno
	}{
		{"\x01" + counting(0, 64), func(c *Cur) { c.Fail(api.ErrConfig) }, api.ErrConfig},
		{"", func(c *Cur) { c.Byte() }, api.ErrShort},
		{"\x02" + counting(0, 64), func(c *Cur) { c.Num(1) }, api.ErrRange},
		{"\x80\x00" + counting(0, 64), func(c *Cur) { c.Num(1) }, api.ErrForm},
		{counting(1, 64), func(c *Cur) { c.Raw(65) }, api.ErrShort},
		{counting(1, 64), func(c *Cur) { c.Raw(-1) }, api.ErrRange},
		{counting(1, 31), func(c *Cur) { c.Hash() }, api.ErrShort},
		{counting(5, 5), func(c *Cur) { c.Text(5) }, api.ErrShort},
		{counting(5, 64), func(c *Cur) { c.Text(4) }, api.ErrRange},
	}
	for i, f := range failures {
		c := Read(f.b)
		f.fail(c)
		checkFailed(t, "a failure", c, f.err)
		for k, use := range uses() {
			got := use(c)
			zero := false
			for _, z := range zeroValues {
				zero = zero || got == z
			}
			if !zero {
				t.Errorf("failure %d, use %d: %v", i, k, got)
			}
			checkFailed(t, "a use after a failure", c, f.err)
		}
	}
}

// model is a cursor as the chapter defines it: the remaining bytes are those from a place on.
type model struct {
	input string
	place int
	err   api.Errno
}

func (m *model) fail(e api.Errno) {
	if m.err == api.OK && e != api.OK {
		m.err, m.place = e, len(m.input)
	}
}

func (m *model) raw(n int) string {
	switch {
	case n < 0:
		m.fail(api.ErrRange)
	case m.err != api.OK:
	case n > len(m.input)-m.place:
		m.fail(api.ErrShort)
	default:
		m.place += n
		return m.input[m.place-n : m.place]
	}
	return ""
}

func (m *model) num(most uint64) uint64 {
	if m.err != api.OK {
		return 0
	}
	x, n, err := num.Take(m.input[m.place:])
	switch {
	case err != api.OK:
		m.fail(err)
	case x > most:
		m.fail(api.ErrRange)
	default:
		m.place += n
		return x
	}
	return 0
}

func (m *model) text(most int) string {
	if most < 0 {
		most = 0
	}
	return m.raw(int(m.num(uint64(most))))
}

// play calls methods of a cursor over b and of its model, as the moves say, and compares all answers.
func play(t *testing.T, b string, moves []byte) {
	t.Helper()
	c, m := Read(b), &model{input: b}
	for i, move := range moves {
		n := int(move/8) - 1
		var got, want any
		switch move % 8 {
		case 0:
			got, want = c.Byte(), byte(0)
			if raw := m.raw(1); raw != "" {
				want = raw[0]
			}
		case 1:
			got, want = c.Num(uint64(n+1)), m.num(uint64(n+1))
		case 2:
			got, want = c.Num(most), m.num(most)
		case 3:
			got, want = c.Raw(n), m.raw(n)
		case 4:
			got, want = c.Hash(), hashOf(m.raw(32))
		case 5:
			got, want = c.Text(n), m.text(n)
		case 6:
			got, want = c.Text(greatest), m.text(greatest)
		case 7:
			// Mostly OK, since otherwise little would be read.
			e := api.Errno(max(n-20, 0))
			c.Fail(e)
			m.fail(e)
		}
		if got != want {
			t.Fatalf("bytes %x, moves %v: move %d answers %v, want %v", b, moves, i, got, want)
		}
		compare(t, c, m)
	}
}

// compare checks what a cursor tells about itself against its model. The remaining bytes are a suffix: a copy of the cursor reads them.
func compare(t *testing.T, c *Cur, m *model) {
	t.Helper()
	rest := m.input[m.place:]
	done := m.err
	if m.err == api.OK && rest != "" {
		done = api.ErrForm
	}
	check(t, "against the model", c, len(rest), m.err, done)
	copied := *c
	if got := copied.Raw(copied.Left()); got != rest || !strings.HasSuffix(m.input, got) {
		t.Fatalf("of %x the bytes %x remain, want %x", m.input, got, rest)
	}
}

// P8.1 to P8.4: random moves over random bytes.
func TestAgainstModel(t *testing.T) {
	r := rand.New(rand.NewSource(88))
	for range 20000 {
		b := make([]byte, r.Intn(120))
		for i := range b {
			b[i] = byte(r.Intn(256))
			if r.Intn(3) > 0 {
				b[i] %= 8
			}
		}
		moves := make([]byte, 1+r.Intn(12))
		for i := range moves {
			moves[i] = byte(r.Intn(256))
		}
		play(t, string(b), moves)
	}
}

// A record of several kinds of values, read in their order.
func TestRecord(t *testing.T) {
	b := "\x07" + "\xac\x02" + "xyz" + counting(9, 32) + "\x04text" + "\x00"
	c := Read(b)
	if c.Byte() != 7 || c.Num(300) != 300 || c.Raw(3) != "xyz" || c.Hash() != hashOf(counting(9, 32)) || c.Text(4) != "text" {
		t.Error("other values are read")
	}
	check(t, "before the last text", c, 1, api.OK, api.ErrForm)
	if c.Text(0) != "" {
		t.Error("the last text")
	}
	check(t, "after the last text", c, 0, api.OK, api.OK)
}

// The chapter's examples.
func TestExamples(t *testing.T) {
	c := Read("\x01\x02")
	if got := c.Byte(); got != 1 {
		t.Errorf("Byte = %d", got)
	}
	if got := c.Num(1); got != 0 || c.Err() != api.ErrRange || c.Left() != 0 {
		t.Errorf("Num(1) = %d, %v, %d remain", got, c.Err(), c.Left())
	}
}

// P8.1 to P8.4, for whatever bytes and moves.
func FuzzCur(f *testing.F) {
	f.Add("\x01\x02ab\x05", []byte{0, 29, 1})
	f.Add(counting(0, 64), []byte{4, 3, 4, 0})
	f.Add("\x80\x00", []byte{2, 255})
	f.Fuzz(func(t *testing.T, b string, moves []byte) { play(t, b, moves) })
}
