package tag

import (
	"bytes"
	"crypto/sha256"
	"encoding/binary"
	"encoding/hex"
	"math"
	"slices"
	"strconv"
	"strings"
	"testing"

	"milepost/api"
)

// hashOf returns the hash whose bytes are all b.
func hashOf(b byte) api.Hash {
	return api.Hash(bytes.Repeat([]byte{b}, 32))
}

// rising returns the hash of the bytes b, b+1, b+2 and so on: no two of them are equal.
func rising(b byte) api.Hash {
	var h api.Hash
	for i := range h {
		h[i] = b + byte(i)
	}
	return h
}

// parted returns a hash that begins with the bytes b and is zero behind them.
func parted(b ...byte) api.Hash {
	var h api.Hash
	copy(h[:], b)
	return h
}

// someTexts are leaves and headers: empty, beginning with each tag byte, texts of other kinds, and of the lengths around a block of the hash.
var someTexts = []string{
	"", "a", "ab", "b", "\x00", "\x01", "\x02", "\x03", "\x04", "\xff", "\x00a", "\x01a", "\x02a", "\x03a", "\x00\x00", "\x03\x03",
	"é", "\xc3", "a\x00", "a\x00b", strings.Repeat("\x00", 40), strings.Repeat("\x00", 41), strings.Repeat("\x00", 64), strings.Repeat("\x00", 65),
	"\x01" + strings.Repeat("\x00", 64), "\x02" + strings.Repeat("\x00", 40), strings.Repeat("x", 54), strings.Repeat("x", 55), strings.Repeat("x", 62),
	strings.Repeat("x", 63), strings.Repeat("x", api.HeadSize), strings.Repeat("x", 5000),
}

// someHashes are hashes of equal bytes, of different ones, and ones that differ in a single bit.
var someHashes = []api.Hash{
	{}, hashOf(1), hashOf(2), hashOf(255), rising(0), rising(1), rising(200), parted(1), parted(128), parted(0, 1), {31: 1}, {31: 128},
}

// someCounts are numbers of leaves at the edges of their bytes.
var someCounts = []uint64{
	0, 1, 2, 255, 256, 257, 65535, 65536, api.MaxLeaves, math.MaxUint32, math.MaxUint32 + 1, 1 << 56, 1 << 63, math.MaxUint64 - 1, math.MaxUint64,
}

// joined is what Text should return, byte by byte.
func joined(tag byte, parts ...string) string {
	out := []byte{tag}
	for _, p := range parts {
		out = append(out, p...)
	}
	return string(out)
}

// P3.2: the tags of the four kinds.
func TestTags(t *testing.T) {
	if Leaf != 0 || Node != 1 || Root != 2 || Header != 3 {
		t.Errorf("tags %d, %d, %d, %d, want 0, 1, 2, 3", Leaf, Node, Root, Header)
	}
}

// P3.1: every tag byte, with no part, one part, empty parts and several.
func TestTextTags(t *testing.T) {
	lists := [][]string{nil, {}, {""}, {"", ""}, {"a"}, {"", "a"}, {"a", ""}, {"", "a", "", "b", ""}, {"ab", "c"}, {"\x00", "\xff", "\x80"}, {"é", "\xc3"}}
	for tag := range 256 {
		for _, parts := range lists {
			got := Text(byte(tag), parts...)
			if want := joined(byte(tag), parts...); got != want {
				t.Errorf("Text(%d, %q...) = %q, want %q", tag, parts, got, want)
			}
		}
	}
	for tag := range 256 {
		if got := Text(byte(tag)); len(got) != 1 || got[0] != byte(tag) {
			t.Errorf("Text(%d) = %q, want that one byte", tag, got)
		}
	}
}

// P3.1: the parts follow one another in their order, written out.
func TestTextParts(t *testing.T) {
	for _, c := range []struct {
		got, want string
	}{
		{Text(9, "a", "b"), "\tab"},
		{Text(9, "b", "a"), "\tba"},
		{Text(128, "é"), "\x80\xc3\xa9"},
		{Text(255, "one", "", "two", " three"), "\xffonetwo three"},
		{Text(0, ""), "\x00"},
		{Text('x', "y"), "xy"},
	} {
		if c.got != c.want {
			t.Errorf("got %q, want %q", c.got, c.want)
		}
	}
}

// P3.1: many parts, and long ones.
func TestTextMany(t *testing.T) {
	for _, n := range []int{1, 2, 3, 100, 20000} {
		parts := make([]string, n)
		for i := range parts {
			parts[i] = strconv.Itoa(i)
		}
		if got, want := Text(7, parts...), joined(7, parts...); got != want {
			t.Errorf("Text of %d parts: %d bytes, want %d, or others", n, len(got), len(want))
		}
	}
	long := strings.Repeat("0123456789", 100000)
	if got := Text(7, long, "|", long); got != "\x07"+long+"|"+long {
		t.Errorf("Text of two long parts: %d bytes, or wrong ones", len(got))
	}
}

// P3.1: the list of parts is not changed, and what a caller does with it afterwards changes no text.
func TestTextLeavesParts(t *testing.T) {
	parts := []string{"a", "b", "c", "d"}
	got := Text(1, parts[:2]...)
	if !slices.Equal(parts, []string{"a", "b", "c", "d"}) {
		t.Errorf("the parts are now %q", parts)
	}
	parts[0], parts[1] = "x", "y"
	if got != "\x01ab" {
		t.Errorf("the text is now %q", got)
	}
}

// P3.2: the texts of leaves and headers, with the chapter's example.
func TestLeafAndHeaderText(t *testing.T) {
	if got := []byte(LeafText("a")); !bytes.Equal(got, []byte{0, 97}) {
		t.Errorf(`LeafText("a") = %v, want 0, 97`, got)
	}
	if got := []byte(HeaderText("a")); !bytes.Equal(got, []byte{3, 97}) {
		t.Errorf(`HeaderText("a") = %v, want 3, 97`, got)
	}
	for _, s := range someTexts {
		if got := LeafText(s); got != "\x00"+s {
			t.Errorf("LeafText(%q) = %q", s, got)
		}
		if got := HeaderText(s); got != "\x03"+s {
			t.Errorf("HeaderText(%q) = %q", s, got)
		}
	}
}

// P3.2: the text of an inner node is 1, the left hash and the right one, in this order: 65 bytes.
func TestNodeText(t *testing.T) {
	for _, left := range someHashes {
		for _, right := range someHashes {
			got := NodeText(left, right)
			if len(got) != 65 || got[0] != 1 || got[1:33] != string(left[:]) || got[33:] != string(right[:]) {
				t.Errorf("NodeText(%x, %x) = %x", left, right, got)
			}
		}
	}
	if got, want := NodeText(hashOf(0), hashOf(255)), "\x01"+strings.Repeat("\x00", 32)+strings.Repeat("\xff", 32); got != want {
		t.Errorf("NodeText of bytes 0 and 255 = %x", got)
	}
}

// P3.2: the text of a root is 2, the eight bytes of the number and the top hash: 41 bytes.
func TestRootText(t *testing.T) {
	for _, n := range someCounts {
		for _, top := range someHashes {
			want := binary.BigEndian.AppendUint64([]byte{2}, n)
			want = append(want, top[:]...)
			if got := RootText(n, top); len(got) != 41 || got != string(want) {
				t.Errorf("RootText(%d, %x) = %x, want %x", n, top, got, want)
			}
		}
	}
}

// P3.2: the number's bytes in the text of a root, written out.
func TestRootTextNumbers(t *testing.T) {
	for _, c := range []struct {
		n    uint64
		want string
	}{
		{0, "\x00\x00\x00\x00\x00\x00\x00\x00"},
		{1, "\x00\x00\x00\x00\x00\x00\x00\x01"},
		{255, "\x00\x00\x00\x00\x00\x00\x00\xff"},
		{256, "\x00\x00\x00\x00\x00\x00\x01\x00"},
		{0x0102030405060708, "\x01\x02\x03\x04\x05\x06\x07\x08"},
		{math.MaxUint64, "\xff\xff\xff\xff\xff\xff\xff\xff"},
	} {
		if got, want := RootText(c.n, hashOf(7)), "\x02"+c.want+strings.Repeat("\x07", 32); got != want {
			t.Errorf("RootText(%d) = %x, want %x", c.n, got, want)
		}
	}
}

// P3.2: each sum is the SHA-256 hash of its text, by the library.
func TestSums(t *testing.T) {
	for _, s := range someTexts {
		if got, want := LeafSum(s), api.Hash(sha256.Sum256([]byte("\x00"+s))); got != want {
			t.Errorf("LeafSum(%q) = %x, want %x", s, got, want)
		}
		if got, want := HeaderSum(s), api.Hash(sha256.Sum256([]byte("\x03"+s))); got != want {
			t.Errorf("HeaderSum(%q) = %x, want %x", s, got, want)
		}
	}
	for _, left := range someHashes {
		for _, right := range someHashes {
			want := api.Hash(sha256.Sum256([]byte(joined(1, string(left[:]), string(right[:])))))
			if got := NodeSum(left, right); got != want {
				t.Errorf("NodeSum(%x, %x) = %x, want %x", left, right, got, want)
			}
		}
		for _, n := range someCounts {
			count := string(binary.BigEndian.AppendUint64(nil, n))
			want := api.Hash(sha256.Sum256([]byte(joined(2, count, string(left[:])))))
			if got := RootSum(n, left); got != want {
				t.Errorf("RootSum(%d, %x) = %x, want %x", n, left, got, want)
			}
		}
	}
}

// P3.2: the published hashes of RFC 6962, whose leaves and inner nodes have the same texts.
func TestPublishedSums(t *testing.T) {
	for _, c := range []struct {
		got  api.Hash
		want string
	}{
		{LeafSum(""), "6e340b9cffb37a989ca544e6bb780a2c78901d3fb33738768511a30617afa01d"},
		{LeafSum("\x00"), "96a296d224f285c67bee93c30f8a309157f0daa35dc5b87e410b78630a09cfc7"},
		{NodeSum(LeafSum(""), LeafSum("\x00")), "fac54203e7cc696cf0dfcb42c92a1d9dbaf70ad9e621f4bd8d98662f00e3c125"},
	} {
		if got := hex.EncodeToString(c.got[:]); got != c.want {
			t.Errorf("got %s, want %s", got, c.want)
		}
	}
}

// text is a text with what it was made of.
type text struct {
	bytes, made string
}

// allTexts returns the texts of all four kinds of the things above; what a text was made of is told without the program's help.
func allTexts() []text {
	var out []text
	for _, s := range someTexts {
		out = append(out, text{LeafText(s), "leaf " + strconv.Quote(s)}, text{HeaderText(s), "header " + strconv.Quote(s)})
	}
	for _, a := range someHashes {
		x := hex.EncodeToString(a[:])
		for _, b := range someHashes {
			out = append(out, text{NodeText(a, b), "node " + x + " " + hex.EncodeToString(b[:])})
		}
		for _, n := range someCounts {
			out = append(out, text{RootText(n, a), "root " + strconv.FormatUint(n, 10) + " " + x})
		}
	}
	return out
}

// P3.3: texts are equal if and only if they are of one kind and have the same parts.
func TestDifferentTexts(t *testing.T) {
	made := map[string]string{}
	for _, x := range allTexts() {
		if other, ok := made[x.bytes]; ok && other != x.made {
			t.Errorf("%s and %s have one text, %x", x.made, other, x.bytes)
		}
		made[x.bytes] = x.made
	}
	again := allTexts()
	for i, x := range allTexts() {
		if again[i].bytes != x.bytes {
			t.Errorf("%s has two texts, %x and %x", x.made, x.bytes, again[i].bytes)
		}
	}
	if len(made) != len(again) {
		t.Errorf("%d texts of %d things", len(made), len(again))
	}
}

// P3.3: the hashes of the same bytes as different kinds, and of hashes that are exchanged, are different.
func TestDifferentSums(t *testing.T) {
	zero, full := hashOf(0), hashOf(255)
	sums := []api.Hash{
		LeafSum(""), HeaderSum(""), LeafSum("\x03"), HeaderSum("\x00"), NodeSum(zero, full), NodeSum(full, zero),
		LeafSum(string(zero[:]) + string(full[:])), HeaderSum(string(zero[:]) + string(full[:])), LeafSum(NodeText(zero, full)),
		HeaderSum(LeafText("a")), RootSum(0, zero), RootSum(1, zero), RootSum(0, full), LeafSum(RootText(0, zero)[1:]), HeaderSum(RootText(0, zero)[1:]),
	}
	for i, x := range sums {
		if k := slices.Index(sums, x); k != i {
			t.Errorf("sums %d and %d are both %x", k, i, x)
		}
	}
}

// P3.1 to P3.3: any parts, hashes and numbers.
func FuzzTexts(f *testing.F) {
	f.Add(byte(0), "", "", uint64(0))
	f.Add(byte(3), "\x03a", "b", uint64(256))
	f.Add(byte(255), strings.Repeat("x", 32), strings.Repeat("y", 40), uint64(math.MaxUint64))
	f.Fuzz(func(t *testing.T, tag byte, a, b string, n uint64) {
		if got := Text(tag, a, b); got != joined(tag, a, b) {
			t.Errorf("Text(%d, %q, %q) = %q", tag, a, b, got)
		}
		left, right := parted([]byte(a)...), parted([]byte(b)...)
		count := string(binary.BigEndian.AppendUint64(nil, n))
		for _, c := range []struct {
			text, want string
			sum        api.Hash
		}{
			{LeafText(a), joined(0, a), LeafSum(a)},
			{NodeText(left, right), joined(1, string(left[:]), string(right[:])), NodeSum(left, right)},
			{RootText(n, left), joined(2, count, string(left[:])), RootSum(n, left)},
			{HeaderText(b), joined(3, b), HeaderSum(b)},
		} {
			if c.text != c.want || c.sum != api.Hash(sha256.Sum256([]byte(c.want))) {
				t.Errorf("text %x with the hash %x, want %x", c.text, c.sum, c.want)
			}
		}
		if (LeafText(a) == LeafText(b)) != (a == b) || (HeaderText(a) == HeaderText(b)) != (a == b) || (NodeText(left, right) == NodeText(right, left)) != (left == right) {
			t.Errorf("equal texts of %q and %q, or different texts of one", a, b)
		}
	})
}
