package ident

import (
	"bytes"
	"crypto/sha256"
	"encoding/binary"
	"encoding/hex"
	"math"
	"math/rand"
	"slices"
	"strings"
	"testing"

	"milepost/api"
	"milepost/clash"
)

// fill returns a hash all of whose bytes are b.
func fill(b byte) api.Hash {
	return api.Hash(bytes.Repeat([]byte{b}, 32))
}

// count returns a hash whose bytes count up from first.
func count(first byte) api.Hash {
	var h api.Hash
	for i := range h {
		h[i] = first + byte(i)
	}
	return h
}

// zeros returns n bytes 0.
func zeros(n int) string { return strings.Repeat("\x00", n) }

// ones returns n bytes 255.
func ones(n int) string { return strings.Repeat("\xff", n) }

// written are headers, their texts and their ids, written out; the ids are from another program's SHA-256.
var written = []struct {
	what string
	h    api.Header
	text string
	id   string
}{
	{"the zero header", api.Header{},
		"\x03" + zeros(76), "a462eba5dcaadf3604552e95b06b28f71f1f238952ddd47fa61c74b9d82fa9fe"},
	{"the greatest number in each field", api.Header{Height: math.MaxUint32, Links: fill(255), Txs: fill(255), Nonce: math.MaxUint64},
		"\x03" + ones(76), "495c462dad45a669f18ee2589f1a10e1eee2066694849fe4a50ee75647cb14ec"},
	{"Height 1", api.Header{Height: 1},
		"\x03\x00\x00\x00\x01" + zeros(72), "76dd097543bb80792859870cfce236ae35e815911f69d6e69d154b144fd8db39"},
	{"the greatest Height", api.Header{Height: math.MaxUint32},
		"\x03" + ones(4) + zeros(72), "f170f64d4110dcbd4116075cb0014947968a560c2ef20f2e36e72abdb7c8ddd4"},
	{"Height of four bytes", api.Header{Height: 0x01020304},
		"\x03\x01\x02\x03\x04" + zeros(72), "122ec4ca1d3c429758efe4ff39452d3ee22f3557a85d59a7696e7951f8b0cdce"},
	{"the greatest Links", api.Header{Links: fill(255)},
		"\x03" + zeros(4) + ones(32) + zeros(40), "9b014ff686393af29e56895dedbf33f2f1a59c929e32234bbc7076d7ccaa3a39"},
	{"the greatest Txs", api.Header{Txs: fill(255)},
		"\x03" + zeros(36) + ones(32) + zeros(8), "3ad78d608310725545b98d5b819035f8a832f10f712fdd93d3d2456a0730e515"},
	{"Links that count", api.Header{Links: count(1)},
		"\x03" + zeros(4) + "\x01\x02\x03\x04\x05\x06\x07\x08\x09\x0a\x0b\x0c\x0d\x0e\x0f\x10\x11\x12\x13\x14\x15\x16\x17\x18\x19\x1a\x1b\x1c\x1d\x1e\x1f\x20" + zeros(40),
		"a4138b433912994c622c6085e0c5b2db6185e740279fe451d3bdcd624edce74b"},
	{"Txs that count", api.Header{Txs: count(0xc0)},
		"\x03" + zeros(36) + "\xc0\xc1\xc2\xc3\xc4\xc5\xc6\xc7\xc8\xc9\xca\xcb\xcc\xcd\xce\xcf\xd0\xd1\xd2\xd3\xd4\xd5\xd6\xd7\xd8\xd9\xda\xdb\xdc\xdd\xde\xdf" + zeros(8),
		"0e1af02ad556afa04145b19ec5929b50c5fca37fbfbe207607e75ab214ae07d7"},
	{"Nonce 1", api.Header{Nonce: 1},
		"\x03" + zeros(75) + "\x01", "5246fd6f530a41e6d8fb080479a7f3093364ea4417fd4c31cbe31e793be1eb3c"},
	{"the greatest Nonce", api.Header{Nonce: math.MaxUint64},
		"\x03" + zeros(68) + ones(8), "0fc82e9189ec1af6b6e848db41f8813a8ba2fc0bf97167342b5ff4290dbd418f"},
	{"Nonce of eight bytes", api.Header{Nonce: 0x0102030405060708},
		"\x03" + zeros(68) + "\x01\x02\x03\x04\x05\x06\x07\x08", "eaf8458fd9b50663d2c8d9ebd77ca67820fc96ee5cac701b59898e577124cacc"},
	{"each field another byte", api.Header{Height: 0x11111111, Links: fill(0x22), Txs: fill(0x33), Nonce: 0x4444444444444444},
		"\x03" + strings.Repeat("\x11", 4) + strings.Repeat("\x22", 32) + strings.Repeat("\x33", 32) + strings.Repeat("\x44", 8),
		"e4ae4f0586a06579b8347869816b86ed40b4c96a3db5217e6a06671990de9670"},
}

// textOf returns the text of a header as the chapters define it, by the library.
func textOf(h api.Header) string {
	b := binary.BigEndian.AppendUint32([]byte{3}, h.Height)
	b = append(b, h.Links[:]...)
	b = append(b, h.Txs[:]...)
	return string(binary.BigEndian.AppendUint64(b, h.Nonce))
}

// sum returns the hash of a text, by the library.
func sum(s string) api.Hash { return sha256.Sum256([]byte(s)) }

// idOf returns the id of a header as the chapters define it, by the library.
func idOf(h api.Header) api.Hash { return sum(textOf(h)) }

// idsOf returns the ids of headers, by the library.
func idsOf(l []api.Header) []api.Hash {
	var out []api.Hash
	for _, h := range l {
		out = append(out, idOf(h))
	}
	return out
}

// parse returns the header of 76 bytes, by the library.
func parse(b []byte) api.Header {
	return api.Header{
		Height: binary.BigEndian.Uint32(b[:4]),
		Links:  api.Hash(b[4:36]),
		Txs:    api.Hash(b[36:68]),
		Nonce:  binary.BigEndian.Uint64(b[68:76]),
	}
}

// someHeader returns any header.
func someHeader(r *rand.Rand) api.Header {
	b := make([]byte, 76)
	r.Read(b)
	return parse(b)
}

// someHeaders returns n headers.
func someHeaders(r *rand.Rand, n int) []api.Header {
	l := make([]api.Header, n)
	for i := range l {
		l[i] = someHeader(r)
	}
	return l
}

// writtenHeaders returns the headers that are written out.
func writtenHeaders() []api.Header {
	var l []api.Header
	for _, w := range written {
		l = append(l, w.h)
	}
	return l
}

// oneBit returns the headers that differ from h in one bit.
func oneBit(h api.Header) []api.Header {
	var l []api.Header
	for i := range 76 {
		for bit := range 8 {
			b := []byte(textOf(h)[1:])
			b[i] ^= 1 << bit
			l = append(l, parse(b))
		}
	}
	return l
}

// oneField returns headers that differ from h in one field: in a number that is next to it, far from it, or rearranged.
func oneField(h api.Header) []api.Header {
	var l []api.Header
	for _, x := range []uint32{h.Height + 1, h.Height - 1, ^h.Height, h.Height<<8 | h.Height>>24} {
		l = append(l, api.Header{Height: x, Links: h.Links, Txs: h.Txs, Nonce: h.Nonce})
	}
	for _, x := range []uint64{h.Nonce + 1, h.Nonce - 1, ^h.Nonce, h.Nonce<<8 | h.Nonce>>56} {
		l = append(l, api.Header{Height: h.Height, Links: h.Links, Txs: h.Txs, Nonce: x})
	}
	for _, x := range []api.Hash{{}, fill(1), fill(255), count(0), count(100)} {
		l = append(l, api.Header{Height: h.Height, Links: x, Txs: h.Txs, Nonce: h.Nonce})
		l = append(l, api.Header{Height: h.Height, Links: h.Links, Txs: x, Nonce: h.Nonce})
	}
	return l
}

// P18.1: the chapter's example.
func TestTextExample(t *testing.T) {
	r := rand.New(rand.NewSource(1))
	for _, h := range append(writtenHeaders(), someHeaders(r, 100)...) {
		if got := Text(h); len(got) != 77 {
			t.Errorf("Text of %v has %d bytes", h, len(got))
		}
	}
}

// P18.1: texts and ids, written out.
func TestWritten(t *testing.T) {
	for _, w := range written {
		if got := Text(w.h); got != w.text {
			t.Errorf("%s: Text = %x, want %x", w.what, got, w.text)
		}
		id := Id(w.h)
		if got := hex.EncodeToString(id[:]); got != w.id {
			t.Errorf("%s: Id = %s, want %s", w.what, got, w.id)
		}
	}
}

// P18.1: the text and the id of headers that differ in one bit or in one field, against the library.
func TestModelAround(t *testing.T) {
	r := rand.New(rand.NewSource(2))
	for _, h := range append(writtenHeaders()[:2], someHeader(r)) {
		for _, other := range append(oneBit(h), oneField(h)...) {
			if got, want := Text(other), textOf(other); got != want {
				t.Errorf("Text of %v = %x, want %x", other, got, want)
			}
			if got, want := Id(other), idOf(other); got != want {
				t.Errorf("Id of %v = %x, want %x", other, got, want)
			}
		}
	}
}

// P18.1: the text and the id of many headers, against the library; the id is the hash of the text.
func TestModel(t *testing.T) {
	r := rand.New(rand.NewSource(3))
	for _, h := range someHeaders(r, 5000) {
		text, id := Text(h), Id(h)
		if text != textOf(h) || id != idOf(h) {
			t.Errorf("Text and Id of %v = %x, %x, want %x, %x", h, text, id, textOf(h), idOf(h))
		}
		if sum(text) != id {
			t.Errorf("%v: the hash of %x is %x, its id is %x", h, text, sum(text), id)
		}
	}
}

// P18.1: Text and Id change no header, and no earlier call counts.
func TestTextAndIdChangeNothing(t *testing.T) {
	r := rand.New(rand.NewSource(4))
	for _, w := range written {
		for _, before := range append(oneField(w.h), w.h, someHeader(r)) {
			Text(before)
			Id(before)
			h := w.h
			text, id := Text(h), Id(h)
			if h != w.h {
				t.Errorf("%s: it is now %v", w.what, h)
			}
			h.Height++
			h.Links[0]++
			h.Txs[31]++
			h.Nonce--
			if text != w.text || hex.EncodeToString(id[:]) != w.id {
				t.Errorf("%s: after those of %v, Text and Id = %x, %x", w.what, before, text, id)
			}
		}
	}
}

// P18.1: Ids of no headers.
func TestIdsNone(t *testing.T) {
	for _, l := range [][]api.Header{nil, {}, make([]api.Header, 0, 4), writtenHeaders()[:0]} {
		if got := Ids(l); len(got) != 0 {
			t.Errorf("Ids of no headers = %x", got)
		}
	}
}

// P18.1: Ids of one header.
func TestIdsOne(t *testing.T) {
	for _, w := range written {
		got := Ids([]api.Header{w.h})
		if len(got) != 1 || hex.EncodeToString(got[0][:]) != w.id {
			t.Errorf("%s: Ids = %x, want %s", w.what, got, w.id)
		}
	}
}

// P18.1: Ids of several headers, written out, forwards and backwards.
func TestIdsWritten(t *testing.T) {
	got := Ids(writtenHeaders())
	l := writtenHeaders()
	slices.Reverse(l)
	back := Ids(l)
	if len(got) != len(written) || len(back) != len(written) {
		t.Fatalf("%d headers have %d and %d ids", len(written), len(got), len(back))
	}
	for i, w := range written {
		other := back[len(back)-1-i]
		if hex.EncodeToString(got[i][:]) != w.id || other != got[i] {
			t.Errorf("%s: Ids = %x forwards, %x backwards, want %s", w.what, got[i], other, w.id)
		}
	}
}

// P18.1: Ids of lists of all lengths up to some dozens, and of a long one, against the library.
func TestIdsModel(t *testing.T) {
	r := rand.New(rand.NewSource(5))
	for n := range 70 {
		l := someHeaders(r, n)
		if got, want := Ids(l), idsOf(l); !slices.Equal(got, want) {
			t.Errorf("Ids of %d headers = %x, want %x", n, got, want)
		}
	}
	l := someHeaders(r, 5000)
	if got, want := Ids(l), idsOf(l); !slices.Equal(got, want) {
		t.Errorf("Ids of %d headers are %d others", len(l), len(got))
	}
}

// P18.1: Ids of equal headers, one beside the other and apart: each has its id, none is left out, and they are not sorted.
func TestIdsEqual(t *testing.T) {
	a, b, c := api.Header{Nonce: 1}, api.Header{Height: 1}, api.Header{}
	for _, l := range [][]api.Header{
		{a, a}, {b, b, b}, {c, c, c, c}, {a, b, a}, {b, a, b}, {a, a, b, b}, {b, b, a, a}, {a, b, c, a, b, c}, {c, b, a, a, b, c}, {a, b, b, a, c, c, a},
		slices.Repeat([]api.Header{a}, 1000), slices.Repeat([]api.Header{c, b, a}, 300),
	} {
		if got, want := Ids(l), idsOf(l); !slices.Equal(got, want) {
			t.Errorf("Ids of %d headers, of which some are equal, = %x, want %x", len(l), got, want)
		}
	}
}

// P18.1: Ids of a part of a list is of that part alone.
func TestIdsOfPart(t *testing.T) {
	r := rand.New(rand.NewSource(6))
	l := someHeaders(r, 9)
	want := idsOf(l)
	for i := range len(l) + 1 {
		for k := i; k <= len(l); k++ {
			if got := Ids(l[i:k]); !slices.Equal(got, want[i:k]) {
				t.Errorf("Ids of those from %d to %d = %x, want %x", i, k, got, want[i:k])
			}
		}
	}
}

// P18.1: Ids changes no list, not even beyond its end, and what it returned does not change with a later call, nor with its argument.
func TestIdsChangesNothing(t *testing.T) {
	r := rand.New(rand.NewSource(7))
	for _, n := range []int{0, 1, 2, 3, 50} {
		whole := someHeaders(r, n+5)
		kept := slices.Clone(whole)
		l := whole[:n]
		got, want := Ids(l), idsOf(l)
		if !slices.Equal(whole, kept) {
			t.Errorf("Ids of %d headers changed them", n)
		}
		later := someHeaders(r, n)
		again, wantAgain := Ids(later), idsOf(later)
		Ids(someHeaders(r, n+1))
		Ids(nil)
		for i := range whole {
			whole[i] = api.Header{}
		}
		if !slices.Equal(got, want) || !slices.Equal(again, wantAgain) {
			t.Errorf("later calls changed what Ids of %d headers returned", n)
		}
		for i := range got {
			got[i] = api.Hash{}
		}
		if !slices.Equal(again, wantAgain) || !slices.Equal(Ids(later), wantAgain) {
			t.Errorf("two lists that Ids of %d headers returned share memory", n)
		}
	}
}

// P18.1: First in no list, and in an empty one.
func TestFirstNone(t *testing.T) {
	for _, l := range [][]api.Hash{nil, {}, make([]api.Hash, 0, 3), []api.Hash{{}, fill(255), count(0)}[:0]} {
		for _, id := range []api.Hash{{}, fill(255), count(0), idOf(api.Header{})} {
			if got := First(l, id); got != -1 {
				t.Errorf("First of %x in no ids = %d", id, got)
			}
		}
	}
}

// P18.1: First in lists, written out: at the first, at the last and at several places, and not there.
func TestFirstWritten(t *testing.T) {
	a, b, c, d := fill(1), fill(2), fill(3), fill(4)
	zero := api.Hash{}
	for _, x := range []struct {
		l    []api.Hash
		id   api.Hash
		want int
	}{
		{[]api.Hash{a}, a, 0},
		{[]api.Hash{a}, b, -1},
		{[]api.Hash{a}, zero, -1},
		{[]api.Hash{zero}, zero, 0},
		{[]api.Hash{zero}, a, -1},
		{[]api.Hash{a, b, c}, a, 0},
		{[]api.Hash{a, b, c}, b, 1},
		{[]api.Hash{a, b, c}, c, 2},
		{[]api.Hash{a, b, c}, d, -1},
		{[]api.Hash{a, b, c}, zero, -1},
		{[]api.Hash{c, b, a}, a, 2},
		{[]api.Hash{c, b, a}, c, 0},
		{[]api.Hash{c, a, b}, b, 2},
		{[]api.Hash{a, b, c, zero}, zero, 3},
		{[]api.Hash{zero, a, zero}, zero, 0},
		{[]api.Hash{a, a}, a, 0},
		{[]api.Hash{a, a, a, a}, a, 0},
		{[]api.Hash{a, a, a, a}, b, -1},
		{[]api.Hash{b, a, a}, a, 1},
		{[]api.Hash{b, a, b, a}, a, 1},
		{[]api.Hash{b, a, b, a}, b, 0},
		{[]api.Hash{d, c, b, a, b, c, d}, b, 2},
		{[]api.Hash{d, c, b, a, b, c, d}, d, 0},
		{[]api.Hash{d, d, d, a, d, d}, a, 3},
		{[]api.Hash{a, b, c, d}[:3], d, -1},
		{[]api.Hash{a, b, c, d}[1:], a, -1},
		{[]api.Hash{a, b, c, d}[1:], b, 0},
	} {
		if got := First(x.l, x.id); got != x.want {
			t.Errorf("First of %x in %x = %d, want %d", x.id, x.l, got, x.want)
		}
	}
}

// P18.1: First of each id of long lists, and of one that is not there.
func TestFirstEachPlace(t *testing.T) {
	r := rand.New(rand.NewSource(8))
	for _, n := range []int{1, 2, 3, 10, 257, 1024} {
		l := idsOf(someHeaders(r, n))
		for i, id := range l {
			if got := First(l, id); got != i {
				t.Errorf("First of the id at %d of %d = %d", i, n, got)
			}
			if got := First(l[i+1:], id); got != -1 {
				t.Errorf("First of the id at %d among those after it = %d", i, got)
			}
		}
		if got := First(append(l, l...), l[n-1]); got != n-1 {
			t.Errorf("First of the last of %d ids in that list twice = %d", n, got)
		}
		if got := First(l, idOf(someHeader(r))); got != -1 {
			t.Errorf("First of an id that is not one of %d = %d", n, got)
		}
	}
}

// P18.1: First tells ids apart that differ in one bit of one byte alone.
func TestFirstEachByte(t *testing.T) {
	for _, id := range []api.Hash{{}, fill(255), count(7), idOf(api.Header{})} {
		for i := range id {
			for bit := range 8 {
				other := id
				other[i] ^= 1 << bit
				if got := First([]api.Hash{other}, id); got != -1 {
					t.Errorf("First of %x in %x alone = %d", id, other, got)
				}
				if got := First([]api.Hash{other, other, id, other, id}, id); got != 2 {
					t.Errorf("First of %x behind two of %x = %d", id, other, got)
				}
			}
		}
	}
}

// P18.1: First in lists of few ids, against a search by hand.
func TestFirstModel(t *testing.T) {
	r := rand.New(rand.NewSource(9))
	for range 5000 {
		l := make([]api.Hash, r.Intn(12))
		for i := range l {
			l[i] = fill(byte(r.Intn(5)))
		}
		kept := slices.Clone(l)
		id := fill(byte(r.Intn(6)))
		want := -1
		for i := len(l) - 1; i >= 0; i-- {
			if bytes.Equal(l[i][:], id[:]) {
				want = i
			}
		}
		if got := First(l, id); got != want {
			t.Errorf("First of %x in %x = %d, want %d", id, kept, got, want)
		}
		if !slices.Equal(l, kept) {
			t.Errorf("First changed %x to %x", kept, l)
		}
	}
}

// P18.1: First of a header's id in what Ids returned is the first index of an equal header.
func TestFirstOfIds(t *testing.T) {
	r := rand.New(rand.NewSource(10))
	for range 300 {
		l := make([]api.Header, r.Intn(12))
		for i := range l {
			l[i] = api.Header{Height: uint32(r.Intn(3)), Nonce: uint64(r.Intn(2))}
		}
		for height := range uint32(4) {
			h := api.Header{Height: height, Nonce: 1}
			if got, want := First(Ids(l), Id(h)), slices.Index(l, h); got != want {
				t.Errorf("First of %v in Ids of %v = %d, want %d", h, l, got, want)
			}
		}
	}
}

// apart fails if two different headers have the same text, or ids that are equal without their texts being a hash collision.
func apart(t *testing.T, a, b api.Header) {
	t.Helper()
	if a == b {
		return
	}
	if Text(a) == Text(b) {
		t.Errorf("%v and %v have the text %x", a, b, Text(a))
	}
	if Id(a) == Id(b) && !clash.Is(Text(a), Text(b)) {
		t.Errorf("%v and %v have the id %x", a, b, Id(a))
	}
}

// P18.2: headers that are written out, each against each.
func TestWrittenApart(t *testing.T) {
	for _, a := range written {
		for _, b := range written {
			apart(t, a.h, b.h)
		}
	}
}

// P18.2: headers that differ in one bit or in one field.
func TestOneChangeApart(t *testing.T) {
	r := rand.New(rand.NewSource(11))
	for _, h := range append(writtenHeaders(), someHeaders(r, 5)...) {
		for _, other := range append(oneBit(h), oneField(h)...) {
			apart(t, h, other)
		}
	}
}

// P18.2: headers of which two fields are exchanged.
func TestExchangedApart(t *testing.T) {
	r := rand.New(rand.NewSource(12))
	for _, h := range someHeaders(r, 200) {
		apart(t, h, api.Header{Height: h.Height, Links: h.Txs, Txs: h.Links, Nonce: h.Nonce})
		apart(t, h, api.Header{Height: uint32(h.Nonce), Links: h.Links, Txs: h.Txs, Nonce: uint64(h.Height)})
	}
}

// P18.2: many headers that agree in some fields: as many texts and ids as headers, and equal headers have one text and one id.
func TestManyApart(t *testing.T) {
	r := rand.New(rand.NewSource(13))
	byText, byId := map[string]api.Header{}, map[api.Hash]api.Header{}
	for range 4000 {
		h := api.Header{Height: uint32(r.Intn(4)), Links: fill(byte(r.Intn(4))), Txs: fill(byte(r.Intn(4))), Nonce: uint64(r.Intn(4))}
		text, id := Text(h), Id(h)
		if other, ok := byText[text]; ok && other != h {
			t.Errorf("%v and %v have the text %x", h, other, text)
		}
		if other, ok := byId[id]; ok && other != h {
			t.Errorf("%v and %v have the id %x", h, other, id)
		}
		byText[text], byId[id] = h, h
	}
	if len(byText) != 256 || len(byId) != 256 {
		t.Errorf("256 headers have %d texts and %d ids", len(byText), len(byId))
	}
}

// P18.1, P18.2: any two headers.
func FuzzIdent(f *testing.F) {
	f.Add([]byte{}, []byte{1})
	f.Add(bytes.Repeat([]byte{255}, 76), make([]byte, 76))
	f.Fuzz(func(t *testing.T, x, y []byte) {
		a, b := parse(append(slices.Clone(x), make([]byte, 76)...)), parse(append(slices.Clone(y), make([]byte, 76)...))
		apart(t, a, b)
		l := []api.Header{a, b, a}
		ids := Ids(l)
		if Text(a) != textOf(a) || Id(a) != idOf(a) || !slices.Equal(ids, idsOf(l)) {
			t.Errorf("Text, Id, Ids of %v = %x, %x, %x", a, Text(a), Id(a), ids)
		}
		if First(ids, Id(a)) != 0 || First(ids, Id(b)) != slices.Index(l, b) || First(ids[1:2], Id(a)) != slices.Index(l[1:2], a) {
			t.Errorf("First of the ids of %v and %v in %x", a, b, ids)
		}
	})
}
