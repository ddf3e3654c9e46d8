package open

import (
	"bytes"
	"crypto/sha256"
	"encoding/binary"
	"encoding/hex"
	"math"
	"math/rand"
	"slices"
	"strconv"
	"strings"
	"testing"

	"milepost/api"
	"milepost/shape"
	"milepost/tree"
)

// sum returns the library's hash of a tag byte and parts.
func sum(tag byte, parts ...[]byte) api.Hash {
	return sha256.Sum256(append([]byte{tag}, bytes.Join(parts, nil)...))
}

// leaf returns the hash of a leaf, by the library.
func leaf(s string) api.Hash { return sum(0, []byte(s)) }

// node returns the hash of an inner node, by the library.
func node(left, right api.Hash) api.Hash { return sum(1, left[:], right[:]) }

// rooted returns the hash of a root, by the library.
func rooted(n int, top api.Hash) api.Hash {
	return sum(2, binary.BigEndian.AppendUint64(nil, uint64(n)), top[:])
}

// rounds returns the hashes of a tree from the bottom up, without the shape of trees: neighbours are joined, and one without a neighbour waits for the next round.
func rounds(l []string) [][]api.Hash {
	var row []api.Hash
	for _, s := range l {
		row = append(row, leaf(s))
	}
	all := [][]api.Hash{row}
	for len(row) > 1 {
		var next []api.Hash
		for i := 0; i+1 < len(row); i += 2 {
			next = append(next, node(row[i], row[i+1]))
		}
		if len(row)%2 == 1 {
			next = append(next, row[len(row)-1])
		}
		row = next
		all = append(all, row)
	}
	return all
}

// wantPath returns the path of element i of a tree: its neighbour of each round in which it has one.
func wantPath(tree [][]api.Hash, i int) []api.Hash {
	var path []api.Hash
	for _, row := range tree[:len(tree)-1] {
		if i^1 < len(row) {
			path = append(path, row[i^1])
		}
		i /= 2
	}
	return path
}

// topUp returns the top to which an opening leads from its leaf, by RFC 9162's way of checking an inclusion proof, and whether the path has as many steps as there are.
func topUp(s string, o api.Opening) (api.Hash, bool) {
	at, last, h := o.Index, o.Count-1, leaf(s)
	for _, other := range o.Path {
		if last == 0 {
			return api.Hash{}, false
		}
		if at%2 == 1 || at == last {
			h = node(other, h)
			for at%2 == 0 && at != 0 {
				at, last = at/2, last/2
			}
		} else {
			h = node(h, other)
		}
		at, last = at/2, last/2
	}
	return h, last == 0
}

// texts returns n different texts, the first of which is empty.
func texts(n int) []string {
	out := make([]string, n)
	for i := range out {
		out[i] = strings.Repeat("x", i%3) + strconv.Itoa(i)
	}
	if n > 0 {
		out[0] = ""
	}
	return out
}

// hashes returns n different hashes.
func hashes(n int) []api.Hash {
	out := make([]api.Hash, n)
	for i := range out {
		out[i] = sum(9, []byte(strconv.Itoa(i)))
	}
	return out
}

// edges returns every length up to some dozens, and every power of two up to 256 with the numbers next to it.
func edges() []int {
	var out []int
	for n := range 70 {
		out = append(out, n)
	}
	return append(out, 127, 128, 129, 255, 256, 257)
}

// checkOpen compares the opening of an element that exists with what is wanted.
func checkOpen(t *testing.T, l []string, i int, want []api.Hash) {
	t.Helper()
	o, err := Open(l, i)
	if err != api.OK {
		t.Errorf("Open of %d texts at %d: %v", len(l), i, err)
	}
	if o.Index != i || o.Count != len(l) {
		t.Errorf("Open of %d texts at %d has Index %d and Count %d", len(l), i, o.Index, o.Count)
	}
	if !slices.Equal(o.Path, want) {
		t.Errorf("Open of %d texts at %d has the path %x, want %x", len(l), i, o.Path, want)
	}
}

// checkError asks for an error, and that nothing is returned together with it.
func checkError(t *testing.T, l []string, i int, want api.Errno) {
	t.Helper()
	o, err := Open(l, i)
	if err != want {
		t.Errorf("Open of %d texts at %d: %v, want %v", len(l), i, err, want)
	}
	if o.Index != 0 || o.Count != 0 || len(o.Path) != 0 {
		t.Errorf("Open of %d texts at %d returns %v with an error", len(l), i, o)
	}
}

// checkList compares the openings of all elements of a list with what is wanted, and asks for the errors of indexes beside them.
func checkList(t *testing.T, l []string) {
	t.Helper()
	n := len(l)
	all := rounds(l)
	for i := range l {
		checkOpen(t, l, i, wantPath(all, i))
	}
	for _, i := range []int{-1, -2, -n, -n - 1, n, n + 1, n + 2, 2 * n, 2*n + 1, math.MinInt, math.MinInt + 1, math.MinInt + n, math.MaxInt, math.MaxInt - 1, math.MaxInt - n} {
		if i < 0 || i >= n {
			checkError(t, l, i, api.ErrRange)
		}
	}
}

// checkHolds asks that an opening leads from its element to the list's root, and that Path has Depth elements.
func checkHolds(t *testing.T, l []string, i int) {
	t.Helper()
	o, err := Open(l, i)
	if got, want := len(o.Path), shape.Depth(len(l), i); got != want {
		t.Errorf("Open of %d texts at %d has %d steps, want %d", len(l), i, got, want)
	}
	top, whole := topUp(l[i], o)
	if err != api.OK || !whole || rooted(o.Count, top) != tree.Root(l) {
		t.Errorf("Open of %d texts at %d = %v, %v, which does not lead to the root", len(l), i, o, err)
	}
}

// checkSame asks whether two openings are the same, in both orders.
func checkSame(t *testing.T, a, b api.Opening, want bool) {
	t.Helper()
	if got := Same(a, b); got != want {
		t.Errorf("Same(%v, %v) = %v", a, b, got)
	}
	if got := Same(b, a); got != want {
		t.Errorf("Same(%v, %v) = %v", b, a, got)
	}
}

// checkNone compares None of an opening with what is wanted.
func checkNone(t *testing.T, o api.Opening, want bool) {
	t.Helper()
	if got := None(o); got != want {
		t.Errorf("None(%v) = %v", o, got)
	}
}

// with returns an opening whose Path is a copy of the given one.
func with(index, count int, path ...api.Hash) api.Opening {
	return api.Opening{Index: index, Count: count, Path: slices.Clone(path)}
}

// P13.1: the chapter's example: for a single leaf Index 0, Count 1 and an empty Path, whatever it is.
func TestExample(t *testing.T) {
	for _, s := range []string{"", "a", "\x00", strings.Repeat("x", 10000)} {
		checkOpen(t, []string{s}, 0, nil)
		checkHolds(t, []string{s}, 0)
		checkList(t, []string{s})
	}
}

// P13.1: nil and an empty list have no elements.
func TestEmpty(t *testing.T) {
	for _, l := range [][]string{nil, {}, texts(2)[:0], make([]string, 0, 8)} {
		for _, i := range []int{0, 1, 2, -1, -2, math.MinInt, math.MaxInt} {
			checkError(t, l, i, api.ErrRange)
		}
	}
}

// P13.1: each of two elements has the other one's hash as its path, also if they are equal.
func TestTwo(t *testing.T) {
	for _, a := range []string{"", "a", "b"} {
		for _, b := range []string{"", "a", "b"} {
			l := []string{a, b}
			checkOpen(t, l, 0, []api.Hash{leaf(b)})
			checkOpen(t, l, 1, []api.Hash{leaf(a)})
			checkList(t, l)
		}
	}
}

// P13.1: the paths of small trees, written out.
func TestSmallTrees(t *testing.T) {
	l := []string{"a", "b", "c", "d", "e", "f", "g"}
	a, b, c, d, e, f, g := leaf("a"), leaf("b"), leaf("c"), leaf("d"), leaf("e"), leaf("f"), leaf("g")
	ab, cd, ef := node(a, b), node(c, d), node(e, f)
	abcd, efg := node(ab, cd), node(ef, g)
	for i, paths := range [][][]api.Hash{
		{{}},
		{{b}, {a}},
		{{b, c}, {a, c}, {ab}},
		{{b, cd}, {a, cd}, {d, ab}, {c, ab}},
		{{b, cd, e}, {a, cd, e}, {d, ab, e}, {c, ab, e}, {abcd}},
		{{b, cd, ef}, {a, cd, ef}, {d, ab, ef}, {c, ab, ef}, {f, abcd}, {e, abcd}},
		{{b, cd, efg}, {a, cd, efg}, {d, ab, efg}, {c, ab, efg}, {f, g, abcd}, {e, g, abcd}, {ef, abcd}},
	} {
		for k, want := range paths {
			checkOpen(t, l[:i+1], k, want)
		}
		checkError(t, l[:i+1], -1, api.ErrRange)
		checkError(t, l[:i+1], i+1, api.ErrRange)
	}
}

// P13.1: published inclusion proofs of RFC 6962's test lists, whose trees have the same leaves, inner nodes and sides.
func TestPublishedPaths(t *testing.T) {
	l := []string{"", "\x00", "\x10", "\x20\x21", "\x30\x31", "\x40\x41\x42\x43", "\x50\x51\x52\x53\x54\x55\x56\x57", "\x60\x61\x62\x63\x64\x65\x66\x67\x68\x69\x6a\x6b\x6c\x6d\x6e\x6f"}
	for _, c := range []struct {
		n, i int
		path []string
	}{
		{1, 0, nil},
		{8, 0, []string{"96a296d224f285c67bee93c30f8a309157f0daa35dc5b87e410b78630a09cfc7", "5f083f0a1a33ca076a95279832580db3e0ef4584bdff1f54c8a360f50de3031e", "6b47aaf29ee3c2af9af889bc1fb9254dabd31177f16232dd6aab035ca39bf6e4"}},
		{8, 5, []string{"bc1a0643b12e4d2d7c77918f44e0f4f79a838b6cf9ec5b5c283e1f4d88599e6b", "ca854ea128ed050b41b35ffc1b87b8eb2bde461e9e3b5596ece6b9d5975a0ae0", "d37ee418976dd95753c1c73862b9398fa2a2cf9b4ff0fdfe8b30cd95209614b7"}},
		{3, 2, []string{"fac54203e7cc696cf0dfcb42c92a1d9dbaf70ad9e621f4bd8d98662f00e3c125"}},
		{5, 1, []string{"6e340b9cffb37a989ca544e6bb780a2c78901d3fb33738768511a30617afa01d", "5f083f0a1a33ca076a95279832580db3e0ef4584bdff1f54c8a360f50de3031e", "bc1a0643b12e4d2d7c77918f44e0f4f79a838b6cf9ec5b5c283e1f4d88599e6b"}},
	} {
		o, err := Open(l[:c.n], c.i)
		var got []string
		for _, h := range o.Path {
			got = append(got, hex.EncodeToString(h[:]))
		}
		if err != api.OK || o.Index != c.i || o.Count != c.n || !slices.Equal(got, c.path) {
			t.Errorf("Open of the first %d at %d = %d, %d, %q, %v", c.n, c.i, o.Index, o.Count, got, err)
		}
	}
}

// P13.1: every index of every length up to some dozens, and of the powers of two with the numbers next to them.
func TestAllElements(t *testing.T) {
	for _, n := range edges() {
		checkList(t, texts(n))
	}
}

// P13.1: equal elements, which only their places in the tree tell apart.
func TestEqualElements(t *testing.T) {
	for n := range 40 {
		checkList(t, make([]string, n))
		checkList(t, slices.Repeat([]string{"a"}, n))
		checkList(t, slices.Repeat([]string{"a", "b"}, n))
	}
}

// P13.1: longer lists of the powers of two with the numbers next to them, at both ends and at the borders of the sides.
func TestLongLists(t *testing.T) {
	for k := 9; k <= 12; k++ {
		for _, n := range []int{1<<k - 1, 1 << k, 1<<k + 1} {
			l := texts(n)
			all := rounds(l)
			half := shape.Left(n)
			for _, i := range []int{0, 1, 2, half/2 - 1, half / 2, half - 1, half, min(half+1, n-1), n - 2, n - 1} {
				checkOpen(t, l, i, wantPath(all, i))
			}
			checkError(t, l, -1, api.ErrRange)
			checkError(t, l, n, api.ErrRange)
		}
	}
}

// P13.1: as many elements as there may be.
func TestMostLeaves(t *testing.T) {
	l := texts(api.MaxLeaves)
	all := rounds(l)
	for _, i := range []int{0, api.MaxLeaves - 1} {
		checkOpen(t, l, i, wantPath(all, i))
	}
	for _, i := range []int{-1, api.MaxLeaves, api.MaxLeaves + 1, math.MinInt, math.MaxInt} {
		checkError(t, l, i, api.ErrRange)
	}
}

// P13.1: more elements than there may be are the first error, whether the index exists or not.
func TestTooManyLeaves(t *testing.T) {
	l := make([]string, 2*api.MaxLeaves)
	for _, n := range []int{api.MaxLeaves + 1, api.MaxLeaves + 2, 2 * api.MaxLeaves} {
		for _, i := range []int{0, 1, n / 2, api.MaxLeaves - 1, api.MaxLeaves, n - 1, n, n + 1, -1, -n, math.MinInt, math.MaxInt} {
			checkError(t, l[:n], i, api.ErrBig)
		}
	}
}

// P13.1: empty, long and contrived elements.
func TestSomeLists(t *testing.T) {
	a, b := leaf("a"), leaf("b")
	long := strings.Repeat("0123456789", 10000)
	for _, l := range [][]string{
		{"", "", ""}, {"a", "a", "a", "b"}, {"a", "b", ""}, {"", "a", "b"}, {"\x00a", "\x00b", "\x01"}, {"é", "\xc3", "\xa9"},
		{string(a[:]) + string(b[:]), "c"}, {"\x01" + string(a[:]) + string(b[:]), "c"}, {string(a[:]), string(b[:]), "c"},
		{long, ""}, {"", long}, {long, long, long}, {"a", long[1:], "b", long[:1], "c"},
	} {
		checkList(t, l)
	}
}

// P13.1: lists of any length and content.
func TestAnyLists(t *testing.T) {
	r := rand.New(rand.NewSource(13))
	for range 100 {
		l := make([]string, r.Intn(60))
		for i := range l {
			b := make([]byte, r.Intn(1<<r.Intn(9)))
			r.Read(b)
			l[i] = string(b)
		}
		checkList(t, l)
	}
}

// P13.1 and P13.3: every opening leads from its element to the list's root, by Depth steps.
func TestOpeningsHold(t *testing.T) {
	for n := range 40 {
		for i := range n {
			checkHolds(t, texts(n), i)
		}
	}
	for _, n := range []int{63, 64, 65, 255, 256, 257, 1023, 1024, 1025} {
		for _, i := range []int{0, 1, n/2 - 1, n / 2, n/2 + 1, n - 2, n - 1} {
			checkHolds(t, texts(n), i)
		}
	}
}

// P13.1: the path has the tops of the other sides, so that the element itself is in none of its hashes, and each of the others is in one.
func TestOtherSides(t *testing.T) {
	for n := 1; n <= 20; n++ {
		for i := range n {
			first, _ := Open(texts(n), i)
			for k := range n {
				l := texts(n)
				l[k] = "other"
				o, _ := Open(l, i)
				differ := 0
				for s := range first.Path {
					if o.Path[s] != first.Path[s] {
						differ++
					}
				}
				if (differ == 1) != (k != i) || differ > 1 {
					t.Errorf("%d hashes of the path of %d of %d differ with element %d", differ, i, n, k)
				}
			}
		}
	}
}

// P13.1: no list that is passed in is changed, nor what lies behind its end.
func TestListsStay(t *testing.T) {
	for _, n := range []int{0, 1, 2, 3, 4, 5, 7, 8, 9, 31, 32, 33} {
		l := texts(n + 3)
		for i := -1; i <= n; i++ {
			Open(l[:n], i)
		}
		if !slices.Equal(l, texts(n+3)) {
			t.Errorf("a list of %d texts was changed", n)
		}
	}
}

// P13.1: what a caller holds is not changed by later calls, and writing to it changes no later result.
func TestResultsAreNew(t *testing.T) {
	l := texts(7)
	first, _ := Open(l, 3)
	second, _ := Open(l, 3)
	neighbour, _ := Open(l, 2)
	want := wantPath(rounds(l), 3)
	clear(first.Path)
	first.Path = append(first.Path[:1], hashes(4)...)
	neighbour.Path = append(neighbour.Path, api.Hash{1})
	if !slices.Equal(second.Path, want) {
		t.Errorf("a path that was returned became %x, want %x", second.Path, want)
	}
	checkList(t, l)
	l[2] = "other"
	if !slices.Equal(second.Path, want) {
		t.Errorf("a path that was returned follows its argument: %x", second.Path)
	}
	checkList(t, l)
}

// P13.2: openings that are made separately, of the same fields, are the same.
func TestSame(t *testing.T) {
	for _, index := range []int{0, 1, -1, 5, math.MinInt, math.MaxInt} {
		for _, count := range []int{0, 1, -1, 5, math.MinInt, math.MaxInt} {
			for n := range 22 {
				a, b := with(index, count, hashes(n)...), with(index, count, hashes(n)...)
				checkSame(t, a, a, true)
				checkSame(t, a, b, true)
			}
		}
	}
}

// P13.2: openings that differ in Index only or in Count only.
func TestNumbersDiffer(t *testing.T) {
	numbers := []int{0, 1, 2, -1, 255, 256, 1 << 16, 1 << 31, 1 << 32, 1<<32 + 1, math.MaxInt, math.MaxInt - 1, math.MinInt, math.MinInt + 1}
	for n := range 4 {
		for _, a := range numbers {
			for _, b := range numbers {
				checkSame(t, with(a, 7, hashes(n)...), with(b, 7, hashes(n)...), a == b)
				checkSame(t, with(3, a, hashes(n)...), with(3, b, hashes(n)...), a == b)
				// The two fields are not taken for each other, nor for their sum.
				checkSame(t, with(a, b, hashes(n)...), with(b, a, hashes(n)...), a == b)
				checkSame(t, with(a, b, hashes(n)...), with(a+1, b-1, hashes(n)...), false)
			}
		}
	}
}

// P13.2: openings that differ in one element of Path only, in any of its bytes.
func TestElementsDiffer(t *testing.T) {
	for n := 1; n <= 21; n++ {
		for at := range n {
			for k := range len(api.Hash{}) {
				a, b := with(3, 7, hashes(n)...), with(3, 7, hashes(n)...)
				b.Path[at][k]++
				checkSame(t, a, b, false)
			}
			// A zero hash is an element like any other.
			a, b := with(3, 7, hashes(n)...), with(3, 7, hashes(n)...)
			b.Path[at] = api.Hash{}
			checkSame(t, a, b, false)
			a.Path[at] = api.Hash{}
			checkSame(t, a, b, true)
		}
	}
}

// P13.2: openings that differ in the order of Path's elements only.
func TestOrdersDiffer(t *testing.T) {
	for n := 2; n <= 21; n++ {
		for i := range n {
			for k := range i {
				a, b := with(3, 7, hashes(n)...), with(3, 7, hashes(n)...)
				b.Path[i], b.Path[k] = b.Path[k], b.Path[i]
				checkSame(t, a, b, false)
			}
		}
	}
}

// P13.2: openings that differ in Path's length only: at its start, at its end, and by zero hashes.
func TestPathLengthsDiffer(t *testing.T) {
	all := hashes(30)
	zeros := make([]api.Hash, 30)
	for a := range 22 {
		for b := range 22 {
			checkSame(t, with(3, 7, all[:a]...), with(3, 7, all[:b]...), a == b)
			checkSame(t, with(3, 7, all[a:]...), with(3, 7, all[b:]...), a == b)
			checkSame(t, with(3, 7, zeros[:a]...), with(3, 7, zeros[:b]...), a == b)
			checkSame(t, with(0, 0, zeros[:a]...), with(0, 0, zeros[:b]...), a == b)
			// Paths that share their memory.
			checkSame(t, api.Opening{Path: all[:a]}, api.Opening{Path: all[:b]}, a == b)
		}
	}
}

// P13.2: a Path of nil and an empty one are the same.
func TestEmptyPaths(t *testing.T) {
	empty := [][]api.Hash{nil, {}, hashes(3)[:0], hashes(3)[3:], make([]api.Hash, 0, 8)}
	for _, a := range empty {
		for _, b := range empty {
			checkSame(t, api.Opening{Path: a}, api.Opening{Path: b}, true)
			checkSame(t, api.Opening{Index: 0, Count: 1, Path: a}, api.Opening{Index: 0, Count: 1, Path: b}, true)
			checkSame(t, api.Opening{Index: 1, Path: a}, api.Opening{Path: b}, false)
			checkSame(t, api.Opening{Count: 1, Path: a}, api.Opening{Path: b}, false)
		}
		checkSame(t, api.Opening{Path: a}, with(0, 0, api.Hash{}), false)
		checkNone(t, api.Opening{Path: a}, true)
		checkNone(t, api.Opening{Index: 1, Path: a}, false)
		checkNone(t, api.Opening{Count: 1, Path: a}, false)
	}
}

// P13.2: no opening is the zero value, and not one that differs from it in one field only.
func TestNone(t *testing.T) {
	checkNone(t, api.Opening{}, true)
	for _, n := range []int{1, 2, -1, 255, 256, 1 << 31, 1 << 32, math.MaxInt, math.MinInt} {
		checkNone(t, with(n, 0), false)
		checkNone(t, with(0, n), false)
		checkNone(t, with(n, n), false)
		checkNone(t, with(n, -n), false)
	}
	for n := 1; n <= 21; n++ {
		checkNone(t, with(0, 0, make([]api.Hash, n)...), false)
		checkNone(t, with(0, 0, hashes(n)...), false)
		checkNone(t, with(n, n, hashes(n)...), false)
	}
}

// P13.1 and P13.2: an opening is the same as itself, made again, and as no other one of the same or of other lists; none is the zero value, but where there is an error.
func TestOpeningsDiffer(t *testing.T) {
	var all []api.Opening
	for n := range 14 {
		for i := range n {
			o, _ := Open(texts(n), i)
			all = append(all, o)
			again, _ := Open(texts(n), i)
			checkSame(t, o, again, true)
			checkNone(t, o, false)
		}
		for _, i := range []int{-1, n} {
			o, _ := Open(texts(n), i)
			checkNone(t, o, true)
		}
	}
	for a := range all {
		for b := range all {
			checkSame(t, all[a], all[b], a == b)
		}
	}
}

// P13.2: openings that are compared are not changed, nor what lies behind the end of their paths.
func TestOpeningsStay(t *testing.T) {
	for n := range 10 {
		path, other := hashes(n+3), hashes(n+3)
		a, b := api.Opening{Index: 3, Count: 7, Path: path[:n]}, api.Opening{Index: 3, Count: 7, Path: other[:n]}
		Same(a, b)
		Same(a, api.Opening{})
		None(a)
		if !slices.Equal(path, hashes(n+3)) || !slices.Equal(other, hashes(n+3)) {
			t.Errorf("a path of %d hashes was changed", n)
		}
	}
}

// P13.3: Path has Depth elements, at every index of many lengths.
func TestPathHasDepth(t *testing.T) {
	for _, n := range edges() {
		l := make([]string, n)
		for i := range n {
			o, err := Open(l, i)
			if got, want := len(o.Path), shape.Depth(n, i); err != api.OK || got != want {
				t.Errorf("Open of %d texts at %d has %d steps, want %d: %v", n, i, got, want, err)
			}
		}
	}
}

// P13.1, P13.2 and P13.3, for whatever lists: the parts of a text, and any index.
func FuzzOpen(f *testing.F) {
	for _, s := range []string{"", ",", "a", "a,b", "a,b,c", ",,,,", "\x00,\x01,\x02", "é,\xc3,\xa9,a,b,c,d,e,f"} {
		f.Add(s, len(s)/2)
	}
	f.Fuzz(func(t *testing.T, s string, i int) {
		l := strings.Split(s, ",")
		checkList(t, l)
		o, err := Open(l, i)
		checkNone(t, o, err != api.OK)
		if err == api.OK {
			checkHolds(t, l, i)
		}
	})
}
