package link

import (
	"bytes"
	"crypto/sha256"
	"encoding/binary"
	"encoding/hex"
	"math"
	"math/rand"
	"slices"
	"testing"

	"milepost/api"
	"milepost/hold"
	"milepost/inter"
	"milepost/open"
	"milepost/tree"
)

// sum returns the library's hash of a tag byte and parts.
func sum(tag byte, parts ...[]byte) api.Hash {
	return sha256.Sum256(append([]byte{tag}, bytes.Join(parts, nil)...))
}

// leafOf returns the hash of the leaf of an id, by the library.
func leafOf(id api.Hash) api.Hash { return sum(0, []byte("L"), id[:]) }

// node returns the hash of an inner node, by the library.
func node(left, right api.Hash) api.Hash { return sum(1, left[:], right[:]) }

// rooted returns the hash of a root, by the library.
func rooted(n int, top api.Hash) api.Hash {
	return sum(2, binary.BigEndian.AppendUint64(nil, uint64(n)), top[:])
}

// rounds returns the hashes of a vector's tree from the bottom up, without the shape of trees: neighbours are joined, and one without a neighbour waits for the next round.
func rounds(v []api.Hash) [][]api.Hash {
	var row []api.Hash
	for _, id := range v {
		row = append(row, leafOf(id))
	}
	all := [][]api.Hash{row}
	for len(row) > 1 {
		var next []api.Hash
		for i := 0; i+1 < len(row); i += 2 {
			next = append(next, node(row[i], row[i+1]))
		}
		if len(row)%2 == 1 {
			next = append(next, row[len(row)-1])
		}
		row = next
		all = append(all, row)
	}
	return all
}

// rootOf returns the root of a vector, by the library.
func rootOf(v []api.Hash) api.Hash {
	if len(v) == 0 {
		return rooted(0, api.Hash{})
	}
	all := rounds(v)
	return rooted(len(v), all[len(all)-1][0])
}

// openingOf returns the opening of an entry that exists: of each round in which it has a neighbour, the neighbour.
func openingOf(all [][]api.Hash, i int) api.Opening {
	o := api.Opening{Index: i, Count: len(all[0])}
	for _, row := range all[:len(all)-1] {
		if i^1 < len(row) {
			o.Path = append(o.Path, row[i^1])
		}
		i /= 2
	}
	return o
}

// stepsOf returns how many hashes the path of an entry that exists has: one for each round in which it has a neighbour.
func stepsOf(count, i int) int {
	steps := 0
	for count > 1 {
		if i^1 < count {
			steps++
		}
		count, i = count/2+count%2, i/2
	}
	return steps
}

// determined returns the root that an id and an opening with a fitting path determine, by RFC 9162's way of checking an inclusion proof.
func determined(id api.Hash, o api.Opening) api.Hash {
	at, last, h := o.Index, o.Count-1, leafOf(id)
	for _, other := range o.Path {
		if at%2 == 1 || at == last {
			h = node(other, h)
			for at%2 == 0 && at != 0 {
				at, last = at/2, last/2
			}
		} else {
			h = node(h, other)
		}
		at, last = at/2, last/2
	}
	return rooted(o.Count, h)
}

// passes tells what Check should, by the promise's words.
func passes(root, id api.Hash, o api.Opening) bool {
	if o.Count < 1 || o.Count > 257 || o.Index < 0 || o.Index >= o.Count {
		return false
	}
	return len(o.Path) == stepsOf(o.Count, o.Index) && determined(id, o) == root
}

// some returns the hash of a number; different numbers have different hashes, none of them the zero hash.
func some(n int) api.Hash {
	h := api.Hash{0: 1, 31: 255}
	binary.BigEndian.PutUint64(h[8:], uint64(n))
	return h
}

// vector returns a vector of some different entries.
func vector(count int) []api.Hash {
	v := make([]api.Hash, count)
	for i := range v {
		v[i] = some(1000 + i)
	}
	return v
}

// full returns the hash whose bytes are all b.
func full(b byte) api.Hash { return api.Hash(bytes.Repeat([]byte{b}, 32)) }

// first returns the hash whose first byte is b, and whose others are 0.
func first(b byte) api.Hash { return api.Hash{b} }

// counts returns every length from 0 up to some dozens, and powers of two and MaxLinks with the numbers next to them.
func counts() []int {
	var out []int
	for n := range 40 {
		out = append(out, n)
	}
	return append(out, 63, 64, 65, 127, 128, 129, 254, 255, 256, 257, 258, 259, 511, 512, 513)
}

// with returns an opening with as many arbitrary hashes as given.
func with(index, count, steps int) api.Opening {
	return api.Opening{Index: index, Count: count, Path: vector(steps)}
}

// fitting returns a valid opening of arbitrary hashes.
func fitting(index, count int) api.Opening { return with(index, count, stepsOf(count, index)) }

// checkCheck compares Check with what is wanted.
func checkCheck(t *testing.T, what string, root, id api.Hash, o api.Opening, want bool) {
	t.Helper()
	if got := Check(root, id, o); got != want {
		t.Errorf("%s: Check of index %d, count %d, %d steps: %v", what, o.Index, o.Count, len(o.Path), got)
	}
}

// checkOpen compares Open of an entry that exists with what is wanted, in every field.
func checkOpen(t *testing.T, v []api.Hash, i int, want api.Opening) {
	t.Helper()
	o, err := Open(v, i)
	if err != api.OK || o.Index != want.Index || o.Count != want.Count || !slices.Equal(o.Path, want.Path) {
		t.Errorf("Open of %d entries, %d: %v, %v, not %v", len(v), i, o, err, want)
	}
}

// checkNone asks for an error of Open, and for no opening.
func checkNone(t *testing.T, v []api.Hash, i int, want api.Errno) {
	t.Helper()
	o, err := Open(v, i)
	if err != want || o.Index != 0 || o.Count != 0 || len(o.Path) != 0 {
		t.Errorf("Open of %d entries, %d: %v, %v, not %v", len(v), i, o, err, want)
	}
}

// P21.1: the chapter's example: Text has 33 bytes.
func TestExample(t *testing.T) {
	for _, id := range []api.Hash{{}, full(255), full('L'), first(1), some(7), {31: 1}} {
		if n := len(Text(id)); n != 33 {
			t.Errorf("Text(%v) has %d bytes", id, n)
		}
	}
}

// P21.1: leaves written out.
func TestTextWritten(t *testing.T) {
	var rising api.Hash
	for i := range rising {
		rising[i] = byte(i)
	}
	for _, c := range []struct {
		id   api.Hash
		want string
	}{
		{api.Hash{}, "L\x00\x00\x00\x00\x00\x00\x00\x00\x00\x00\x00\x00\x00\x00\x00\x00\x00\x00\x00\x00\x00\x00\x00\x00\x00\x00\x00\x00\x00\x00\x00\x00"},
		{full(255), "L\xff\xff\xff\xff\xff\xff\xff\xff\xff\xff\xff\xff\xff\xff\xff\xff\xff\xff\xff\xff\xff\xff\xff\xff\xff\xff\xff\xff\xff\xff\xff\xff"},
		{full('L'), "LLLLLLLLLLLLLLLLLLLLLLLLLLLLLLLLL"},
		{rising, "L\x00\x01\x02\x03\x04\x05\x06\x07\x08\x09\x0a\x0b\x0c\x0d\x0e\x0f\x10\x11\x12\x13\x14\x15\x16\x17\x18\x19\x1a\x1b\x1c\x1d\x1e\x1f"},
	} {
		if got := Text(c.id); got != c.want {
			t.Errorf("Text(%v) = %q", c.id, got)
		}
	}
}

// P21.1: ids whose bytes are all equal, and ids of any bytes: the letter, then each byte, in order.
func TestText(t *testing.T) {
	var ids []api.Hash
	for b := range 256 {
		ids = append(ids, full(byte(b)), first(byte(b)), api.Hash{31: byte(b)})
	}
	r := rand.New(rand.NewSource(1))
	for range 500 {
		var id api.Hash
		r.Read(id[:])
		ids = append(ids, id)
	}
	seen := map[string]api.Hash{}
	for _, id := range ids {
		got := Text(id)
		if len(got) != 33 || got[0] != 'L' {
			t.Errorf("Text(%v) = %q", id, got)
			continue
		}
		for i, b := range id {
			if got[1+i] != b {
				t.Errorf("Text(%v): byte %d is %d", id, 1+i, got[1+i])
			}
		}
		if other, is := seen[got]; is && other != id {
			t.Errorf("%v and %v have the same leaf", id, other)
		}
		seen[got] = id
	}
}

// P21.1: roots written out, worked out by another program.
func TestRootWritten(t *testing.T) {
	rising := make([]api.Hash, 257)
	for i := range rising {
		binary.BigEndian.PutUint16(rising[i][30:], uint16(i))
	}
	for _, c := range []struct {
		what string
		v    []api.Hash
		want string
	}{
		{"nil", nil, "c6c0aa07f27493d2f2e5cff56c890a353a20086d6c25ec825128e12ae752b2d9"},
		{"empty", []api.Hash{}, "c6c0aa07f27493d2f2e5cff56c890a353a20086d6c25ec825128e12ae752b2d9"},
		{"the zero id", []api.Hash{{}}, "7b25cd598544c8547d1ae5467cc602baf547f7c687b3aca539cbd591060c03be"},
		{"the greatest id", []api.Hash{full(255)}, "5efd6692b7c44711b1ef475997b1886bb562d13850d29894f9f409270e4e75ca"},
		{"the zero id twice", []api.Hash{{}, {}}, "411119fa6c6a1d0b7c4cebc76439770005cbe30f34202c2a25a38bd9f7d093ae"},
		{"least and greatest", []api.Hash{{}, full(255)}, "947798ace91018bfced89b6af113399d0a9d09792a22c490b1012b84e60c1e4d"},
		{"greatest and least", []api.Hash{full(255), {}}, "7b12062de8609dbc9bac469c9123fbd0eae8698b04e73f28a9cc60f7dffd8e4f"},
		{"three", []api.Hash{first(1), first(2), first(3)}, "ce0aa9fcbbc7a945f55feb0e259693278118c50572fd2604d1e410b67519d417"},
		{"three, falling", []api.Hash{first(3), first(2), first(1)}, "ffef20fcf929519891c8100fb31f6d8b4082b12460d20a5e61f349a961e2b853"},
		{"five", []api.Hash{first(1), first(2), first(3), first(4), first(5)}, "b2dd09d5da23c4c20a2cc13c50df498ce269ab0af11def34422f4ef147720f02"},
		{"MaxLinks zero ids", make([]api.Hash, 257), "c586c1f1937b78a3451b925847815a28aae4a95a187018b4d74bad0c44762d49"},
		{"one more", make([]api.Hash, 258), "08aaf46c3996dbfe6ae26fad641c01e983f77c6a2885c44e9dc17655239a7a3e"},
		{"MaxLinks different ids", rising, "7a566e1fb2b0e46c53184be42fa7c26fd199695f876ccb36acd45dde198c5725"},
	} {
		got := Root(c.v)
		if hex.EncodeToString(got[:]) != c.want {
			t.Errorf("Root of %s = %x", c.what, got)
		}
	}
}

// P21.1: vectors of all lengths, of different and of equal entries, by the library.
func TestRoot(t *testing.T) {
	for _, count := range append(counts(), 1000, 1024, 1025) {
		v := vector(count)
		if got, want := Root(v), rootOf(v); got != want {
			t.Errorf("Root of %d entries = %x, not %x", count, got, want)
		}
		equal := slices.Repeat([]api.Hash{some(3)}, count)
		if got, want := Root(equal), rootOf(equal); got != want {
			t.Errorf("Root of %d equal entries = %x, not %x", count, got, want)
		}
		if count < 2 {
			continue
		}
		// Runs of equal entries, as in an interlink vector.
		runs := slices.Concat(slices.Repeat([]api.Hash{some(1)}, count/2), slices.Repeat([]api.Hash{some(2)}, count-count/2-1), v[:1])
		if got, want := Root(runs), rootOf(runs); got != want {
			t.Errorf("Root of %d entries in runs = %x, not %x", count, got, want)
		}
	}
}

// P21.1: the root is that of the leaves, not of the ids' bytes alone nor of their hashes.
func TestRootOfLeaves(t *testing.T) {
	for _, count := range counts() {
		v := vector(count)
		var leaves, bare []string
		for _, id := range v {
			leaves = append(leaves, "L"+string(id[:]))
			bare = append(bare, string(id[:]))
		}
		if Root(v) != tree.Root(leaves) {
			t.Errorf("%d entries: not the root of the leaves", count)
		}
		if count > 0 && Root(v) == tree.Root(bare) {
			t.Errorf("%d entries: the root of the ids' bytes", count)
		}
	}
}

// P21.1: vectors that differ in length, order or one entry have different roots.
func TestRootsDiffer(t *testing.T) {
	seen := map[api.Hash]string{}
	add := func(what string, v []api.Hash) {
		root := Root(v)
		if other, is := seen[root]; is {
			t.Errorf("%s and %s have the same root", what, other)
		}
		seen[root] = what
	}
	for _, count := range counts() {
		add("zero ids", make([]api.Hash, count))
		v := vector(count)
		if count > 0 {
			add("different ids", v)
		}
		if count > 1 {
			v[0], v[count-1] = v[count-1], v[0]
			add("exchanged ids", v)
		}
		if count > 0 {
			v[count/2][31] ^= 1
			add("changed ids", v)
		}
	}
}

// P21.1: openings written out.
func TestOpenWritten(t *testing.T) {
	a, b, c := first(1), first(2), first(3)
	for _, x := range []struct {
		v    []api.Hash
		i    int
		want api.Opening
	}{
		{[]api.Hash{a}, 0, api.Opening{Index: 0, Count: 1}},
		{[]api.Hash{{}}, 0, api.Opening{Index: 0, Count: 1}},
		{[]api.Hash{a, b}, 0, api.Opening{Index: 0, Count: 2, Path: []api.Hash{leafOf(b)}}},
		{[]api.Hash{a, b}, 1, api.Opening{Index: 1, Count: 2, Path: []api.Hash{leafOf(a)}}},
		{[]api.Hash{a, a}, 1, api.Opening{Index: 1, Count: 2, Path: []api.Hash{leafOf(a)}}},
		{[]api.Hash{a, b, c}, 0, api.Opening{Index: 0, Count: 3, Path: []api.Hash{leafOf(b), leafOf(c)}}},
		{[]api.Hash{a, b, c}, 1, api.Opening{Index: 1, Count: 3, Path: []api.Hash{leafOf(a), leafOf(c)}}},
		{[]api.Hash{a, b, c}, 2, api.Opening{Index: 2, Count: 3, Path: []api.Hash{node(leafOf(a), leafOf(b))}}},
		{[]api.Hash{a, b, c, a}, 1, api.Opening{Index: 1, Count: 4, Path: []api.Hash{leafOf(a), node(leafOf(c), leafOf(a))}}},
	} {
		checkOpen(t, x.v, x.i, x.want)
	}
}

// P21.1: every entry of vectors of all lengths, beyond MaxLinks as well, and the indices that there are not.
func TestOpen(t *testing.T) {
	for _, count := range counts() {
		v := vector(count)
		all := rounds(v)
		for i := range v {
			checkOpen(t, v, i, openingOf(all, i))
		}
		for _, i := range []int{-1, -2, -count - 1, count, count + 1, 2*count + 1, 1 << 32, 1<<32 + 1, math.MinInt32, math.MaxInt32, math.MinInt, math.MinInt + 1, math.MaxInt - 1, math.MaxInt} {
			checkNone(t, v, i, api.ErrRange)
		}
	}
}

// P21.1: a vector that is nil or empty has no entry to open.
func TestOpenNothing(t *testing.T) {
	for _, v := range [][]api.Hash{nil, {}, vector(3)[:0]} {
		for _, i := range []int{-1, 0, 1, 256, 257, math.MinInt, math.MaxInt} {
			checkNone(t, v, i, api.ErrRange)
		}
	}
}

// P21.1: what Open returns is what open.Open does for the leaves.
func TestOpenOfLeaves(t *testing.T) {
	for _, count := range []int{0, 1, 2, 5, 256, 257, 258} {
		v := vector(count)
		var leaves []string
		for _, id := range v {
			leaves = append(leaves, "L"+string(id[:]))
		}
		for _, i := range []int{-1, 0, 1, count / 2, count - 1, count, count + 1, math.MinInt, math.MaxInt} {
			got, err := Open(v, i)
			want, fault := open.Open(leaves, i)
			if !open.Same(got, want) || err != fault {
				t.Errorf("Open of %d entries, %d: %v, %v, not %v, %v", count, i, got, err, want, fault)
			}
		}
	}
}

// P21.1: vectors around MaxLeaves: too many entries are told before an index that there is not.
func TestOpenHuge(t *testing.T) {
	v := make([]api.Hash, api.MaxLeaves+2)
	for _, count := range []int{api.MaxLeaves + 1, api.MaxLeaves + 2} {
		for _, i := range []int{-1, 0, api.MaxLeaves, count - 1, count, math.MinInt, math.MaxInt} {
			checkNone(t, v[:count], i, api.ErrBig)
		}
	}
	for _, i := range []int{-1, api.MaxLeaves, api.MaxLeaves + 1, math.MinInt, math.MaxInt} {
		checkNone(t, v[:api.MaxLeaves], i, api.ErrRange)
	}
}

// P21.2: what Open returned passes for its id and root, and for no other id or root.
func TestCheck(t *testing.T) {
	for _, count := range []int{1, 2, 3, 4, 5, 7, 8, 9, 31, 64, 100, 255, 256, 257} {
		v := vector(count)
		root := Root(v)
		for i, id := range v {
			o, _ := Open(v, i)
			checkCheck(t, "the entry", root, id, o, true)
			for _, other := range []api.Hash{{}, some(1), v[(i+1)%count], root, leafOf(id)} {
				checkCheck(t, "another id", root, other, o, other == id)
			}
			for _, other := range []api.Hash{{}, id, leafOf(id), Root(nil), Root(v[1:]), Root(vector(count + 1)), rounds(v)[len(rounds(v))-1][0]} {
				checkCheck(t, "another root", other, id, o, false)
			}
			if count > 100 && i > 3 && i < count-3 {
				continue
			}
			for k := range 32 {
				changed, wrong := root, id
				changed[k] ^= 1 << (k % 8)
				wrong[k] ^= 128 >> (k % 8)
				checkCheck(t, "a changed root", changed, id, o, false)
				checkCheck(t, "a changed id", root, wrong, o, false)
			}
		}
	}
}

// P21.2: openings with another Index or Count, or another Path, do not pass.
func TestChangedOpenings(t *testing.T) {
	for _, count := range []int{1, 2, 3, 4, 5, 7, 8, 9, 16, 33, 255, 256, 257} {
		v := vector(count)
		root := Root(v)
		for _, i := range []int{0, 1, count / 2, count - 2, count - 1} {
			if i < 0 || i >= count {
				continue
			}
			o, _ := Open(v, i)
			for _, index := range []int{-1, 0, 1, i - 1, i + 1, i ^ 1, count - 1 - i, count - 1, count, -i - 1, i + 1<<32, math.MinInt, math.MaxInt} {
				x := o
				x.Index = index
				checkCheck(t, "another index", root, v[i], x, index == i)
			}
			for _, n := range []int{-1, 0, 1, 2, count - 1, count + 1, 2 * count, 256, 257, 258, -count, count + 1<<32, api.MaxLeaves, api.MaxLeaves + 1, math.MinInt, math.MaxInt} {
				x := o
				x.Count = n
				checkCheck(t, "another count", root, v[i], x, n == count)
			}
			checkPaths(t, root, v[i], o)
		}
	}
	checkCheck(t, "no opening", Root(nil), api.Hash{}, api.Opening{}, false)
	checkCheck(t, "no opening", Root([]api.Hash{{}}), api.Hash{}, api.Opening{}, false)
	checkCheck(t, "no opening", api.Hash{}, api.Hash{}, api.Opening{}, false)
	checkCheck(t, "no opening of a path", api.Hash{}, api.Hash{}, api.Opening{Path: make([]api.Hash, 1)}, false)
}

// checkPaths changes, for an opening that passes, each hash of its path, takes each away, and puts further ones in.
func checkPaths(t *testing.T, root, id api.Hash, o api.Opening) {
	t.Helper()
	for k := range o.Path {
		x := o
		x.Path = slices.Clone(o.Path)
		x.Path[k][k] ^= 1
		checkCheck(t, "a changed hash", root, id, x, false)
		x.Path = slices.Delete(slices.Clone(o.Path), k, k+1)
		checkCheck(t, "a hash too few", root, id, x, false)
		if k > 0 {
			x.Path = slices.Clone(o.Path)
			x.Path[k], x.Path[k-1] = x.Path[k-1], x.Path[k]
			checkCheck(t, "two hashes exchanged", root, id, x, false)
		}
	}
	for k := range len(o.Path) + 1 {
		for _, h := range []api.Hash{{}, id, leafOf(id), root} {
			x := o
			x.Path = slices.Insert(slices.Clone(o.Path), k, h)
			checkCheck(t, "a hash too many", root, id, x, false)
		}
	}
	if len(o.Path) > 0 {
		x := o
		x.Path = nil
		checkCheck(t, "no path", root, id, x, false)
	}
}

// P21.2: the Count may be MaxLinks, and no more, even if the opening holds.
func TestCountLimit(t *testing.T) {
	id := some(5)
	for _, count := range []int{1, 2, 3, 128, 254, 255, 256, 257, 258, 259, 300, 511, 512, 513, 1024, api.MaxLeaves - 1, api.MaxLeaves} {
		for _, i := range []int{0, 1, count / 2, count - 2, count - 1} {
			if i < 0 || i >= count {
				continue
			}
			o := fitting(i, count)
			root, err := hold.Root("L"+string(id[:]), o)
			if err != api.OK || root != determined(id, o) {
				t.Fatalf("index %d of %d: no root: %v", i, count, err)
			}
			checkCheck(t, "what holds", root, id, o, count <= 257)
			checkCheck(t, "what does not hold", root, some(6), o, false)
		}
	}
	for _, count := range []int{0, -1, -257, -258, api.MaxLeaves + 1, math.MinInt32, math.MaxInt32, 1<<32 + 1, 1<<32 + 257, math.MinInt, math.MinInt + 257, math.MaxInt} {
		for steps := range 22 {
			for _, i := range []int{0, -1, 1, count - 1} {
				checkCheck(t, "a count that there is not", api.Hash{}, id, with(i, count, steps), false)
				checkCheck(t, "a count that there is not", rooted(count, leafOf(id)), id, with(i, count, steps), false)
			}
		}
	}
}

// P21.2: openings whose path has the right length, one hash too few or one too many, of all indices, by the promise's words.
func TestCheckForms(t *testing.T) {
	id := some(5)
	for count := range 20 {
		for index := -2; index < count+3; index++ {
			for steps := range 8 {
				o := with(index, count, steps)
				root := rooted(1, leafOf(id))
				if index >= 0 && index < count && steps == stepsOf(count, index) {
					root = determined(id, o)
				}
				checkCheck(t, "any form", root, id, o, passes(root, id, o))
				checkCheck(t, "any form, another root", some(1), id, o, false)
			}
		}
	}
}

// P21.2: an opening of a text that is not the id's leaf does not pass: a lower-case letter, no letter, or one byte more.
func TestOtherLeaves(t *testing.T) {
	for _, id := range []api.Hash{{}, full(255), full('L'), some(9)} {
		for _, text := range []string{"", string(id[:]), "l" + string(id[:]), "T" + string(id[:]), "LL" + string(id[:]), "L" + string(id[:]) + "\x00", string(id[:]) + "L"} {
			if text == "L"+string(id[:]) {
				continue
			}
			for _, l := range [][]string{{text}, {text, text}, {"a", text, "b"}} {
				o, _ := open.Open(l, len(l)/2)
				checkCheck(t, "another leaf", tree.Root(l), id, o, false)
			}
		}
		l := []string{"a", "L" + string(id[:]), "b"}
		o, _ := open.Open(l, 1)
		checkCheck(t, "the leaf among others", tree.Root(l), id, o, true)
	}
}

// P21.3: what Open returns passes for every entry of vectors of at most MaxLinks entries, and for none of longer ones.
func TestOpenPasses(t *testing.T) {
	for _, count := range append(counts(), 1024, 1025) {
		for _, v := range [][]api.Hash{vector(count), slices.Repeat([]api.Hash{full(255)}, count)} {
			root := Root(v)
			for i, id := range v {
				if count > 258 && i > 2 && i < count-3 && i != 257 {
					continue
				}
				o, err := Open(v, i)
				if err != api.OK {
					t.Errorf("Open of %d entries, %d: %v", count, i, err)
				}
				checkCheck(t, "what Open returned", root, id, o, count <= 257)
			}
		}
	}
}

// P21.3: interlink vectors, one after another, up to MaxLinks entries.
func TestInterlinkVectors(t *testing.T) {
	r := rand.New(rand.NewSource(3))
	v := inter.First(some(0))
	for n := range 60 {
		root := Root(v)
		if root != rootOf(v) {
			t.Fatalf("block %d: root %x", n, root)
		}
		for range 20 {
			i := r.Intn(len(v))
			o, err := Open(v, i)
			if err != api.OK || !Check(root, v[i], o) {
				t.Errorf("block %d: entry %d of %d: %v", n, i, len(v), err)
			}
			checkCheck(t, "another entry", root, some(-1-n), o, false)
		}
		level := bitsOf(r)
		if n == 50 {
			level = api.MaxLevel
		}
		v = inter.Next(v, some(1+n), level)
	}
	if len(v) != api.MaxLinks {
		t.Errorf("%d entries in the end", len(v))
	}
}

// bitsOf returns a level that is n with a probability of about 1 in 2^(n+1).
func bitsOf(r *rand.Rand) int {
	level := 0
	for r.Intn(2) == 1 {
		level++
	}
	return level
}

// P21.1, P21.2: nothing that was passed in is changed, not even behind its end, and no result shares memory with it.
func TestArgumentsKept(t *testing.T) {
	for _, count := range []int{0, 1, 2, 3, 7, 256, 257, 258} {
		whole := append(vector(count), vector(20)...)
		was := slices.Clone(whole)
		v := whole[:count]
		root := Root(v)
		for _, i := range []int{math.MinInt, -1, 0, 1, count / 2, count - 1, count, math.MaxInt} {
			o, err := Open(v, i)
			if !slices.Equal(whole, was) {
				t.Fatalf("Open of %d entries, %d changed the vector", count, i)
			}
			if err != api.OK {
				continue
			}
			path := slices.Clone(o.Path)
			Check(root, v[i], o)
			Check(some(1), some(2), o)
			if !slices.Equal(o.Path, path) {
				t.Errorf("%d entries, %d: Check changed the path", count, i)
			}
			clear(o.Path)
			if !slices.Equal(whole, was) {
				t.Errorf("%d entries, %d: the path shares memory with the vector", count, i)
			}
		}
		if !slices.Equal(whole, was) || Root(v) != root {
			t.Errorf("%d entries: changed", count)
		}
	}
}

// P21.1: an opening that was returned does not change with the vector, nor with a later call.
func TestResultsKept(t *testing.T) {
	v := vector(9)
	root := Root(v)
	var all []api.Opening
	for i := range v {
		o, _ := Open(v, i)
		all = append(all, o)
	}
	again, _ := Open(v, 4)
	clear(again.Path)
	ids := slices.Clone(v)
	clear(v)
	Root(v)
	for i, o := range all {
		checkCheck(t, "an earlier opening", root, ids[i], o, true)
		clear(o.Path)
		if i+1 < len(all) {
			checkCheck(t, "the next opening", root, ids[i+1], all[i+1], true)
		}
	}
}

// P21.1, P21.2: the same arguments have the same results.
func TestRepeated(t *testing.T) {
	v := vector(100)
	root := Root(v)
	for i, id := range v {
		a, _ := Open(v, i)
		b, _ := Open(v, i)
		if Text(id) != Text(id) || Root(v) != root || !open.Same(a, b) || Check(root, id, a) != Check(root, id, b) {
			t.Errorf("entry %d: different results", i)
		}
	}
}

// P21.1, P21.2, P21.3: any vector, index, and opening.
func FuzzLink(f *testing.F) {
	f.Add(0, 0, 0, 0, 0)
	f.Add(1, 0, 0, 1, 0)
	f.Add(3, 2, 2, 3, 1)
	f.Add(257, 256, 256, 257, 1)
	f.Add(258, 256, 257, 258, 1)
	f.Add(5, math.MinInt, math.MaxInt, math.MinInt, 9)
	f.Fuzz(func(t *testing.T, count, i, index, other, steps int) {
		v := make([]api.Hash, (count%600+600)%600)
		for k := range v {
			v[k] = some(count + k/3)
		}
		root := Root(v)
		if want := rootOf(v); root != want {
			t.Errorf("Root of %d entries = %x, not %x", len(v), root, want)
		}
		if i < 0 || i >= len(v) {
			checkNone(t, v, i, api.ErrRange)
		} else {
			want := openingOf(rounds(v), i)
			checkOpen(t, v, i, want)
			checkCheck(t, "the entry", root, v[i], want, len(v) <= 257)
			want.Index, want.Count = index, other
			checkCheck(t, "other numbers", root, v[i], want, passes(root, v[i], want))
		}
		o := with(index, other, (steps%25+25)%25)
		if o.Count > 0 && o.Count < 1<<20 && index >= 0 && index < o.Count {
			o = fitting(index, o.Count)
			root = determined(some(i), o)
		}
		checkCheck(t, "any opening", root, some(i), o, passes(root, some(i), o))
	})
}
