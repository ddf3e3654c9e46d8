package sha

import (
	"crypto/sha256"
	"encoding"
	"encoding/binary"
	"encoding/hex"
	"math"
	"math/big"
	"math/bits"
	"slices"
	"strconv"
	"strings"
	"testing"

	"milepost/api"
)

// text returns n bytes that differ from their neighbours, none of them 0 or 128.
func text(n int) string {
	b := make([]byte, n)
	for i := range b {
		b[i] = byte(1 + (i*37+i/64*11)%127)
	}
	return string(b)
}

// edgeSizes are the lengths around which padding and blocks change.
var edgeSizes = []int{0, 1, 3, 4, 54, 55, 56, 57, 62, 63, 64, 65, 118, 119, 120, 121, 127, 128, 129, 191, 192, 193, 1000}

// primes returns the first n primes.
func primes(n int) []int64 {
	var out []int64
	for p := int64(2); len(out) < n; p++ {
		if big.NewInt(p).ProbablyPrime(0) {
			out = append(out, p)
		}
	}
	return out
}

// fraction returns the first 32 bits of the fractional part of the root of p of a degree: the greatest x with x^degree <= p * 2^(32*degree), modulo 2^32.
func fraction(p, degree int64) uint32 {
	limit := new(big.Int).Lsh(big.NewInt(p), uint(32*degree))
	x := new(big.Int)
	for i := 40; i >= 0; i-- {
		x.SetBit(x, i, 1)
		if new(big.Int).Exp(x, big.NewInt(degree), nil).Cmp(limit) > 0 {
			x.SetBit(x, i, 0)
		}
	}
	return uint32(x.Uint64())
}

// P2.1: the initial words and the round constants, as their definition makes them.
func TestConstants(t *testing.T) {
	first := First()
	for i, p := range primes(8) {
		if want := fraction(p, 2); first[i] != want {
			t.Errorf("First()[%d] = %#x, want %#x", i, first[i], want)
		}
	}
	for i, p := range primes(64) {
		if want := fraction(p, 3); rounds[i] != want {
			t.Errorf("round constant %d = %#x, want %#x", i, rounds[i], want)
		}
	}
	if Size != 64 {
		t.Errorf("Size = %d, want 64", Size)
	}
}

// P2.1: what a caller does with the words changes no later answer.
func TestFirstIsNew(t *testing.T) {
	h := First()
	h[0]++
	if First()[0] != 0x6a09e667 {
		t.Errorf("First()[0] = %#x after a change to an earlier answer", First()[0])
	}
}

// P2.1: words of the block of "abc" in the example of FIPS 180-4.
func TestSpreadKnown(t *testing.T) {
	w := Spread("abc" + Pad(3))
	for _, c := range []struct {
		i    int
		want uint32
	}{
		{0, 0x61626380}, {1, 0}, {14, 0}, {15, 0x00000018},
		{16, 0x61626380}, {17, 0x000f0000}, {18, 0x7da86405}, {19, 0x600003c6}, {63, 0x12b1edeb},
	} {
		if w[c.i] != c.want {
			t.Errorf("word %d = %#x, want %#x", c.i, w[c.i], c.want)
		}
	}
}

// spreadOf returns the words of exactly 64 bytes.
func spreadOf(b string) [64]uint32 {
	right := func(x uint32, n int) uint32 { return bits.RotateLeft32(x, -n) }
	var w [64]uint32
	for i := range w {
		if i < 16 {
			w[i] = binary.BigEndian.Uint32([]byte(b[4*i:]))
			continue
		}
		x, y := w[i-15], w[i-2]
		s0 := right(x, 7) ^ right(x, 18) ^ x>>3
		s1 := right(y, 17) ^ right(y, 19) ^ y>>10
		w[i] = w[i-16] + s0 + w[i-7] + s1
	}
	return w
}

// block returns the first 64 bytes of b, the missing ones as 0.
func block(b string) string {
	return (b + strings.Repeat("\x00", 64))[:64]
}

// P2.1: blocks of every length, shorter and longer than 64 bytes.
func TestSpreadEveryLength(t *testing.T) {
	whole := text(200)
	for n := range len(whole) + 1 {
		if Spread(whole[:n]) != spreadOf(block(whole[:n])) {
			t.Errorf("Spread of %d bytes is wrong", n)
		}
	}
	if Spread("") != [64]uint32{} {
		t.Error("Spread of no bytes is not 0")
	}
	if Spread(strings.Repeat("\xff", 64)) != spreadOf(strings.Repeat("\xff", 64)) {
		t.Error("Spread of bytes 255 is wrong")
	}
}

// mixOf compresses exactly 64 bytes into any words with the library's hash, whose words are set and read by way of its saved form: 4 bytes, then the words, then the bytes held, then their number.
func mixOf(t *testing.T, h Words, b string) Words {
	t.Helper()
	d := sha256.New()
	saved, err := d.(encoding.BinaryMarshaler).MarshalBinary()
	if err != nil {
		t.Fatal(err)
	}
	for i, x := range h {
		binary.BigEndian.PutUint32(saved[4+4*i:], x)
	}
	if err := d.(encoding.BinaryUnmarshaler).UnmarshalBinary(saved); err != nil {
		t.Fatal(err)
	}
	d.Write([]byte(b))
	saved, err = d.(encoding.BinaryMarshaler).MarshalBinary()
	if err != nil {
		t.Fatal(err)
	}
	var out Words
	for i := range out {
		out[i] = binary.BigEndian.Uint32(saved[4+4*i:])
	}
	return out
}

// wordsList are states of which each word matters.
func wordsList() []Words {
	list := []Words{{}, First()}
	for i := range 8 {
		var one, full Words
		one[i] = 1 << (4 * i)
		for k := range full {
			full[k] = math.MaxUint32
		}
		full[i] = 0x12345678
		list = append(list, one, full)
	}
	return list
}

// P2.1: the example of FIPS 180-4.
func TestMixKnown(t *testing.T) {
	want := Words{0xba7816bf, 0x8f01cfea, 0x414140de, 0x5dae2223, 0xb00361a3, 0x96177a9c, 0xb410ff61, 0xf20015ad}
	if got := Mix(First(), "abc"+Pad(3)); got != want {
		t.Errorf("Mix of the block of abc = %#x, want %#x", got, want)
	}
}

// P2.1: blocks of every length into the initial words, and some into others.
func TestMixEveryLength(t *testing.T) {
	whole := text(200)
	for n := range len(whole) + 1 {
		if got, want := Mix(First(), whole[:n]), mixOf(t, First(), block(whole[:n])); got != want {
			t.Errorf("Mix of %d bytes = %#x, want %#x", n, got, want)
		}
	}
	for _, h := range wordsList() {
		for _, b := range []string{"", "\x80", whole[:63], whole[:64], whole[:65], strings.Repeat("\xff", 64), strings.Repeat("\xff", 130)} {
			if got, want := Mix(h, b), mixOf(t, h, block(b)); got != want {
				t.Errorf("Mix(%#x, %q) = %#x, want %#x", h, b, got, want)
			}
		}
	}
}

// padOf returns the padding of a message of n bytes, one zero byte after another.
func padOf(n uint64) string {
	zeros := 0
	for (n%64+1+uint64(zeros)+8)%64 != 0 {
		zeros++
	}
	bitCount := new(big.Int).Lsh(new(big.Int).SetUint64(n), 3)
	bitCount.Mod(bitCount, new(big.Int).Lsh(big.NewInt(1), 64))
	return "\x80" + strings.Repeat("\x00", zeros) + string(bitCount.FillBytes(make([]byte, 8)))
}

// P2.2: the lengths of known paddings and their last eight bytes.
func TestPadKnown(t *testing.T) {
	for _, c := range []struct {
		n    uint64
		size int
		last string
	}{
		{0, 64, "\x00\x00\x00\x00\x00\x00\x00\x00"},
		{1, 63, "\x00\x00\x00\x00\x00\x00\x00\x08"},
		{54, 10, "\x00\x00\x00\x00\x00\x00\x01\xb0"},
		{55, 9, "\x00\x00\x00\x00\x00\x00\x01\xb8"},
		{56, 72, "\x00\x00\x00\x00\x00\x00\x01\xc0"},
		{63, 65, "\x00\x00\x00\x00\x00\x00\x01\xf8"},
		{64, 64, "\x00\x00\x00\x00\x00\x00\x02\x00"},
		{119, 9, "\x00\x00\x00\x00\x00\x00\x03\xb8"},
		{120, 72, "\x00\x00\x00\x00\x00\x00\x03\xc0"},
		{1 << 29, 64, "\x00\x00\x00\x01\x00\x00\x00\x00"},
		{1<<61 - 1, 65, "\xff\xff\xff\xff\xff\xff\xff\xf8"},
		{1 << 61, 64, "\x00\x00\x00\x00\x00\x00\x00\x00"},
		{1<<61 + 55, 9, "\x00\x00\x00\x00\x00\x00\x01\xb8"},
		{1<<61 + 56, 72, "\x00\x00\x00\x00\x00\x00\x01\xc0"},
		{1<<63 + 1, 63, "\x00\x00\x00\x00\x00\x00\x00\x08"},
		{math.MaxUint64 - 8, 9, "\xff\xff\xff\xff\xff\xff\xff\xb8"},
		{math.MaxUint64 - 7, 72, "\xff\xff\xff\xff\xff\xff\xff\xc0"},
		{math.MaxUint64, 65, "\xff\xff\xff\xff\xff\xff\xff\xf8"},
	} {
		got := Pad(c.n)
		if len(got) != c.size || !strings.HasPrefix(got, "\x80") || !strings.HasSuffix(got, c.last) {
			t.Errorf("Pad(%d) = %q, want %d bytes from 128 to %q", c.n, got, c.size, c.last)
		}
	}
}

// P2.2: every byte, for all small lengths and those at which 8 times the length wraps round.
func TestPadEveryLength(t *testing.T) {
	for d := range uint64(300) {
		for _, n := range []uint64{d, 1<<32 - 150 + d, 1<<61 - 150 + d, 1<<63 - 150 + d, math.MaxUint64 - d} {
			if got, want := Pad(n), padOf(n); got != want {
				t.Errorf("Pad(%d) = %q, want %q", n, got, want)
			}
		}
	}
}

// fromHex returns the hash that 64 digits write.
func fromHex(t *testing.T, digits string) api.Hash {
	t.Helper()
	b, err := hex.DecodeString(digits)
	if err != nil || len(b) != 32 {
		t.Fatalf("%q is no hash", digits)
	}
	return api.Hash(b)
}

// P2.3: published hashes, the chapter's example among them.
func TestSumKnown(t *testing.T) {
	for _, c := range []struct{ b, want string }{
		{"", "e3b0c44298fc1c149afbf4c8996fb92427ae41e4649b934ca495991b7852b855"},
		{"abc", "ba7816bf8f01cfea414140de5dae2223b00361a396177a9cb410ff61f20015ad"},
		{"abcdbcdecdefdefgefghfghighijhijkijkljklmklmnlmnomnopnopq", "248d6a61d20638b8e5c026930c3e6039a33ce45964ff2167f6ecedd419db06c1"},
		{"abcdefghbcdefghicdefghijdefghijkefghijklfghijklmghijklmnhijklmnoijklmnopjklmnopqklmnopqrlmnopqrsmnopqrstnopqrstu", "cf5b16a778af8380036ce59e7b0492370b249b11e8f07a51afac45037afee9d1"},
		{strings.Repeat("a", 1000000), "cdc76e5c9914fb9281a1c7e284d73e67f1809a48a497200e046d39ccc7112cd0"},
	} {
		if got := Sum(c.b); got != fromHex(t, c.want) {
			t.Errorf("Sum of %d bytes = %x, want %s", len(c.b), got, c.want)
		}
	}
	if h := Sum("abc"); h[0] != 186 || h[1] != 120 || h[2] != 22 || h[3] != 191 {
		t.Errorf("Sum(\"abc\") starts with %v", h[:4])
	}
}

// P2.3: messages of every length over several blocks, against the library's hash.
func TestSumEveryLength(t *testing.T) {
	whole := text(400)
	for n := range len(whole) + 1 {
		if got := Sum(whole[:n]); got != sha256.Sum256([]byte(whole[:n])) {
			t.Errorf("Sum of %d bytes = %x", n, got)
		}
	}
	for _, c := range []string{"\x00", "\x80", "\xff"} {
		for _, n := range edgeSizes {
			b := strings.Repeat(c, n)
			if got := Sum(b); got != sha256.Sum256([]byte(b)) {
				t.Errorf("Sum of %d bytes %q = %x", n, c, got)
			}
		}
	}
}

// P2.3: the words in order, after all blocks of the message and its Pad.
func TestSumIsMixOfBlocks(t *testing.T) {
	for _, n := range edgeSizes {
		b := text(n)
		h := First()
		for p := range slices.Chunk([]byte(b+Pad(uint64(n))), Size) {
			h = Mix(h, string(p))
		}
		var want []byte
		for _, x := range h {
			want = binary.BigEndian.AppendUint32(want, x)
		}
		if got := Sum(b); got != api.Hash(want) {
			t.Errorf("Sum of %d bytes = %x, want %x", n, got, want)
		}
	}
}

// check compares a state with the message that was written to it.
func check(t *testing.T, s *State, b string) {
	t.Helper()
	if got := s.Len(); got != uint64(len(b)) {
		t.Errorf("Len after %d bytes = %d", len(b), got)
	}
	if got := s.Sum(); got != sha256.Sum256([]byte(b)) {
		t.Errorf("Sum after %d bytes = %x", len(b), got)
	}
}

// starts are the ways to have a state with no bytes.
func starts() map[string]func() *State {
	return map[string]func() *State{
		"New":         New,
		"zero State":  func() *State { return &State{} },
		"State value": func() *State { var s State; return &s },
	}
}

// P2.4: New and a zero State, before and after messages of all edge lengths.
func TestStateStarts(t *testing.T) {
	for name, start := range starts() {
		t.Run(name, func(t *testing.T) {
			check(t, start(), "")
			for _, n := range edgeSizes {
				s := start()
				s.Write(text(n))
				check(t, s, text(n))
			}
		})
	}
}

// P2.4: Sum between two Writes, and twice, changes nothing.
func TestStateSumBetween(t *testing.T) {
	for name, start := range starts() {
		t.Run(name, func(t *testing.T) {
			for _, first := range edgeSizes {
				for _, second := range edgeSizes {
					b := text(first + second)
					s := start()
					check(t, s, "")
					s.Write(b[:first])
					check(t, s, b[:first])
					check(t, s, b[:first])
					s.Write(b[first:])
					check(t, s, b)
					check(t, s, b)
				}
			}
		})
	}
}

// P2.4: empty Writes count for nothing, wherever they stand.
func TestStateEmptyWrites(t *testing.T) {
	for _, n := range edgeSizes {
		s := New()
		s.Write("")
		check(t, s, "")
		s.Write(text(n))
		s.Write("")
		s.Write("")
		check(t, s, text(n))
	}
}

// P2.4: a nil State is no message at all, and stays so.
func TestStateNil(t *testing.T) {
	var s *State
	for _, n := range edgeSizes {
		s.Write(text(n))
		if s.Len() != 0 {
			t.Errorf("Len of a nil State = %d after a Write of %d bytes", s.Len(), n)
		}
		if s.Sum() != sha256.Sum256(nil) {
			t.Errorf("Sum of a nil State = %x after a Write of %d bytes", s.Sum(), n)
		}
	}
}

// P2.4: states do not share what is written to them.
func TestStatesApart(t *testing.T) {
	a, b := New(), New()
	var x, y string
	for i, n := range edgeSizes {
		a.Write(text(n))
		x += text(n)
		b.Write(strings.Repeat("\xff", i))
		y += strings.Repeat("\xff", i)
		check(t, a, x)
		check(t, b, y)
	}
}

// P2.5: two pieces, divided anywhere.
func TestTwoPieces(t *testing.T) {
	for _, n := range edgeSizes[:len(edgeSizes)-1] {
		b := text(n)
		for at := range n + 1 {
			s := New()
			s.Write(b[:at])
			s.Write(b[at:])
			check(t, s, b)
		}
	}
}

// P2.5: three pieces that end at, just before and just after multiples of 64 bytes.
func TestThreePieces(t *testing.T) {
	ends := []int{0, 1, 55, 56, 63, 64, 65, 127, 128, 129, 191, 192, 193, 255, 256, 257, 300}
	b := text(300)
	for i, p := range ends {
		for _, q := range ends[i:] {
			s := New()
			s.Write(b[:p])
			s.Write(b[p:q])
			s.Write(b[q:])
			check(t, s, b)
		}
	}
}

// P2.5: many pieces of one length, the hash asked after each of them.
func TestEqualPieces(t *testing.T) {
	b := text(400)
	for n := 1; n <= 200; n++ {
		t.Run(strconv.Itoa(n), func(t *testing.T) {
			s := New()
			for at := 0; at < len(b); at += n {
				end := min(at+n, len(b))
				s.Write(b[at:end])
				check(t, s, b[:end])
			}
		})
	}
}

// P2.3 and P2.5: any message, in pieces whose lengths are any bytes.
func FuzzPieces(f *testing.F) {
	f.Add("", "")
	f.Add(text(200), "\x00\x40\x00\x3f\x01\x41")
	f.Add(text(300), "\xff")
	f.Fuzz(func(t *testing.T, b, lengths string) {
		s := New()
		at := 0
		for i := range len(lengths) {
			end := min(at+int(lengths[i]), len(b))
			s.Write(b[at:end])
			at = end
			check(t, s, b[:at])
		}
		s.Write(b[at:])
		check(t, s, b)
		if Sum(b) != s.Sum() {
			t.Errorf("Sum(%q) is not the Sum of its pieces", b)
		}
	})
}

func BenchmarkSum(b *testing.B) {
	m := text(64 * 1024)
	b.SetBytes(int64(len(m)))
	for b.Loop() {
		Sum(m)
	}
}
