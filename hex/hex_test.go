package hex

import (
	library "encoding/hex"
	"math/rand"
	"strings"
	"testing"

	"milepost/api"
)

// isDigit tells whether a byte is a digit, written out.
func isDigit(c byte) bool {
	return '0' <= c && c <= '9' || 'a' <= c && c <= 'f'
}

// wantBytes returns what Bytes must return, by the library, which takes uppercase digits as well and has no minus sign.
func wantBytes(s string) (string, bool) {
	if s == "-" {
		return "", true
	}
	for i := range len(s) {
		if !isDigit(s[i]) {
			return "", false
		}
	}
	b, err := library.DecodeString(s)
	if s == "" || err != nil {
		return "", false
	}
	return string(b), true
}

// checkBytes compares Bytes(s) with what is wanted.
func checkBytes(t *testing.T, s, want string, wantIs bool) {
	t.Helper()
	if got, is := Bytes(s); got != want || is != wantIs {
		t.Errorf("Bytes(%q) = %q, %t, want %q, %t", s, got, is, want, wantIs)
	}
}

// checkSum compares Sum(s) with what is wanted.
func checkSum(t *testing.T, s string, want api.Hash, wantIs bool) {
	t.Helper()
	if got, is := Sum(s); got != want || is != wantIs {
		t.Errorf("Sum(%q) = %x, %t, want %x, %t", s, got, is, want, wantIs)
	}
}

// checkAll compares all that the functions return for s with what is wanted, and follows each from one form to the other and back.
func checkAll(t *testing.T, s string) {
	t.Helper()
	text := library.EncodeToString([]byte(s))
	if s == "" {
		text = "-"
	}
	if got := Text(s); got != text {
		t.Errorf("Text(%q) = %q, want %q", s, got, text)
	}
	checkBytes(t, text, s, true)
	b, is := wantBytes(s)
	checkBytes(t, s, b, is)
	if is && Text(b) != s {
		t.Errorf("Text of the bytes of %q is %q", s, Text(b))
	}
	var sum api.Hash
	isSum := is && len(b) == 32
	if isSum {
		sum = api.Hash([]byte(b))
	}
	checkSum(t, s, sum, isSum)
}

// P10.1: Text of strings, written out.
func TestText(t *testing.T) {
	for _, c := range []struct{ s, want string }{
		{"", "-"},
		{"-", "2d"},
		{"--", "2d2d"},
		{"a0", "6130"},
		{"\x00", "00"},
		{"\x00\x00", "0000"},
		{"\x0f\xf0", "0ff0"},
		{"\x01\x23\x45\x67\x89\xab\xcd\xef", "0123456789abcdef"},
		{"\xfe\xdc\xba\x98\x76\x54\x32\x10", "fedcba9876543210"},
		{"ä", "c3a4"},
		{"\xff\xfe\x80", "fffe80"},
		{"\xef\xbf\xbd", "efbfbd"},
		{"abc\n", "6162630a"},
	} {
		if got := Text(c.s); got != c.want {
			t.Errorf("Text(%q) = %q, want %q", c.s, got, c.want)
		}
	}
}

// P10.1 and P10.2: each single byte, by the digits in their order, upper four bits first.
func TestEachByte(t *testing.T) {
	c := 0
	for _, upper := range "0123456789abcdef" {
		for _, lower := range "0123456789abcdef" {
			s, text := string([]byte{byte(c)}), string([]rune{upper, lower})
			if got := Text(s); got != text {
				t.Errorf("Text of byte %d = %q, want %q", c, got, text)
			}
			checkBytes(t, text, s, true)
			c++
		}
	}
	if c != 256 {
		t.Errorf("%d bytes", c)
	}
}

// P10.1: Bytes of texts that are some bytes' Text, written out.
func TestBytes(t *testing.T) {
	for _, c := range []struct{ s, want string }{
		{"-", ""},
		{"00", "\x00"},
		{"0000", "\x00\x00"},
		{"2d", "-"},
		{"6130", "a0"},
		{"ff00", "\xff\x00"},
		{"0f", "\x0f"},
		{"f0", "\xf0"},
		{"0123456789abcdef", "\x01\x23\x45\x67\x89\xab\xcd\xef"},
		{"c3a4", "ä"},
		{"80", "\x80"},
		{"efbfbd", "\uFFFD"},
	} {
		checkBytes(t, c.s, c.want, true)
	}
}

// P10.1: Bytes and Sum of texts that are no bytes' Text.
func TestNoBytes(t *testing.T) {
	for _, s := range []string{
		"",
		"--", "---", "----", "-0", "0-", "-00", "00-", "0-0", "-6130", "6130-", "61-30", "- ", " -", "-\x00", "\x00-",
		"0", "a", "f", "000", "613", "6130a", "00000",
		"6A", "A6", "AA", "AB", "FF", "aF", "Fa", "0A0a", "0a0A", "DEADBEEF", "deadbeeF", "Deadbeef",
		"0x", "0x00", "x0", "+0", "+00", "0 ", " 0", "00 ", " 00", "0 0", "0\n", "00\n", "00\r\n", "0\x00", "\x00\x00", "61 30", "6_", "__",
		"\u2212", "\u2212\u2212", "\u2013", "\uFF0D", "–0",
		"ä", "0ä", "ä0", "00ä", "ää", "0é0", "\u0660\u0661", "\uFF10\uFF11", "0\uFF10", "\uFF41", "\U0001D7D8", "\U0001D7D80",
		"\u0130", "\u0130\u0131", "\u0161", "\u0230", "0\u0130", "\U00010030", "\U00010061",
		"\uFFFD", "0\uFFFD", "00\uFFFD", "\uFFFD0",
		"\xff", "\xff\xff", "0\xff", "\xff0", "00\xff\xff", "\x80", "0\x80", "\xc3", "0\xc3", "\xc30", "\xa4\xc3", "\xe2\x82", "\xe2\x82\xac0",
		"\xc0\xb0", "\xc0\xb0\xc0\xb1", "\xe0\x80\xb0", "\xed\xa0\x80", "\xf4\x90\x80\x80", "\xb0\xb1", "\xe1\xe2",
	} {
		checkBytes(t, s, "", false)
		checkSum(t, s, api.Hash{}, false)
	}
}

// P10.1: no single character but the minus sign stands for bytes.
func TestSingleCharacters(t *testing.T) {
	for c := range 256 {
		checkBytes(t, string([]byte{byte(c)}), "", c == '-')
	}
}

// P10.1: of any two characters only two digits are a byte; those next to the digits on either side are none.
func TestTwoCharacters(t *testing.T) {
	count := 0
	for first := range 256 {
		for second := range 256 {
			s := string([]byte{byte(first), byte(second)})
			want, is := wantBytes(s)
			if is {
				count++
			}
			checkBytes(t, s, want, is)
		}
	}
	if count != 256 {
		t.Errorf("%d of two characters are a byte", count)
	}
	for _, c := range "/:`g@G" {
		for _, s := range []string{"0" + string(c), string(c) + "0", "00f" + string(c), string(c) + "f00"} {
			checkBytes(t, s, "", false)
		}
	}
}

// P10.1: a wrong character is found at each place, whatever it is.
func TestWrongAtEachPlace(t *testing.T) {
	right := "0123456789abcdef9876"
	for i := range len(right) {
		for c := range 256 {
			b := []byte(right)
			b[i] = byte(c)
			want, is := wantBytes(string(b))
			checkBytes(t, string(b), want, is)
		}
		// A character of two bytes leaves the number of bytes even.
		if i+2 <= len(right) {
			checkBytes(t, right[:i]+"\u0130"+right[i+2:], "", false)
		}
		checkBytes(t, right[:i]+right[i+1:], "", false)
	}
}

// hashText returns the digits of a hash whose bytes count up from first, and the hash.
func hashText(first int) (string, api.Hash) {
	var h api.Hash
	text := ""
	for i := range h {
		h[i] = byte(first + i)
		text += library.EncodeToString(h[i : i+1])
	}
	return text, h
}

// P10.1: Sum of 64 digits.
func TestSum(t *testing.T) {
	checkSum(t, strings.Repeat("0", 64), api.Hash{}, true)
	checkSum(t, strings.Repeat("0", 62)+"01", api.Hash{31: 1}, true)
	checkSum(t, "10"+strings.Repeat("0", 62), api.Hash{16}, true)
	checkSum(t, "ba7816bf8f01cfea414140de5dae2223b00361a396177a9cb410ff61f20015ad", api.Hash{
		0xba, 0x78, 0x16, 0xbf, 0x8f, 0x01, 0xcf, 0xea, 0x41, 0x41, 0x40, 0xde, 0x5d, 0xae, 0x22, 0x23,
		0xb0, 0x03, 0x61, 0xa3, 0x96, 0x17, 0x7a, 0x9c, 0xb4, 0x10, 0xff, 0x61, 0xf2, 0x00, 0x15, 0xad,
	}, true)
	for first := range 256 {
		text, h := hashText(first)
		checkSum(t, text, h, true)
		if got := Text(string(h[:])); got != text {
			t.Errorf("Text of the hash = %q, want %q", got, text)
		}
	}
}

// P10.1: Sum of any other number of digits, with the zero hash beside the false.
func TestSumOfOtherLengths(t *testing.T) {
	text, _ := hashText(7)
	long := text + text + text
	for n := range len(long) + 1 {
		if n != 64 {
			checkSum(t, long[:n], api.Hash{}, false)
		}
	}
	for _, s := range []string{"-", "", "-" + text, text + "-", text[:63] + "-", "-" + text[1:], " " + text, text + " ", text + "\n", "0x" + text, "0x" + text[2:]} {
		checkSum(t, s, api.Hash{}, false)
	}
}

// P10.1: Sum of 64 characters one of which is no digit, at each place, and of 32 raw bytes.
func TestSumOfOtherCharacters(t *testing.T) {
	text, h := hashText(0x9a)
	for i := range len(text) {
		for c := range 256 {
			if isDigit(byte(c)) {
				continue
			}
			checkSum(t, text[:i]+string([]byte{byte(c)})+text[i+1:], api.Hash{}, false)
		}
	}
	checkSum(t, strings.ToUpper(text), api.Hash{}, false)
	checkSum(t, strings.Repeat("-", 64), api.Hash{}, false)
	checkSum(t, text[:62]+"\u0130", api.Hash{}, false)
	checkSum(t, string(h[:]), api.Hash{}, false)
	checkSum(t, strings.Repeat("\u0130", 32), api.Hash{}, false)
	checkSum(t, strings.Repeat("\u0130", 64), api.Hash{}, false)
}

// P10.2: Bytes of what Text returned, and Text of what Bytes returned, for many strings of all lengths.
func TestInverse(t *testing.T) {
	r := rand.New(rand.NewSource(10))
	alphabets := []string{"0123456789abcdef", "0123456789abcdef-", "0123456789abcdefABCDEFg/:@`", "-", "0aä\xff"}
	for i := range 20000 {
		b := make([]byte, r.Intn(80))
		alphabet := alphabets[i%len(alphabets)]
		for k := range b {
			b[k] = byte(r.Intn(256))
			if i%2 == 0 {
				b[k] = alphabet[r.Intn(len(alphabet))]
			}
		}
		checkAll(t, string(b))
	}
}

// P10.2: different bytes have different texts.
func TestTextsDiffer(t *testing.T) {
	seen := map[string]string{}
	add := func(s string) {
		if other, is := seen[Text(s)]; is {
			t.Errorf("%q and %q have the text %q", s, other, Text(s))
		}
		seen[Text(s)] = s
	}
	add("")
	for first := range 256 {
		add(string([]byte{byte(first)}))
		for second := range 256 {
			add(string([]byte{byte(first), byte(second)}))
		}
	}
}

// P10.1 and P10.2: a long string.
func TestLong(t *testing.T) {
	long := strings.Repeat("\x00\x7f\x80\xffab", 1<<16)
	text := Text(long)
	if text != strings.Repeat("007f80ff6162", 1<<16) {
		t.Error("Text of a long string")
	}
	if got, is := Bytes(text); got != long || !is {
		t.Error("Bytes of a long text")
	}
	if got, is := Bytes(text + "g0"); got != "" || is {
		t.Error("Bytes of a long text with a wrong end")
	}
}

// The chapter's examples.
func TestExamples(t *testing.T) {
	if got := Text("a0"); got != "6130" {
		t.Errorf("Text of a0 = %q", got)
	}
	checkBytes(t, "6A", "", false)
}

// P10.1 and P10.2, for whatever string.
func FuzzHex(f *testing.F) {
	text, h := hashText(0)
	for _, s := range []string{"", "-", "--", "6130", "6A", "0", "\xff", "\u0130", text, string(h[:])} {
		f.Add(s)
	}
	f.Fuzz(func(t *testing.T, s string) { checkAll(t, s) })
}
