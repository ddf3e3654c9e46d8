package tree

import (
	"bytes"
	"crypto/sha256"
	"encoding/binary"
	"encoding/hex"
	"math/rand"
	"slices"
	"strconv"
	"strings"
	"testing"

	"milepost/api"
)

// sum returns the library's hash of a tag byte and parts.
func sum(tag byte, parts ...[]byte) api.Hash {
	return sha256.Sum256(append([]byte{tag}, bytes.Join(parts, nil)...))
}

// leaf returns the hash of a leaf, by the library.
func leaf(s string) api.Hash { return sum(0, []byte(s)) }

// node returns the hash of an inner node, by the library.
func node(left, right api.Hash) api.Hash { return sum(1, left[:], right[:]) }

// rooted returns the hash of a root, by the library.
func rooted(n int, top api.Hash) api.Hash {
	return sum(2, binary.BigEndian.AppendUint64(nil, uint64(n)), top[:])
}

// wantLeaves returns the hash of each leaf.
func wantLeaves(l []string) []api.Hash {
	var out []api.Hash
	for _, s := range l {
		out = append(out, leaf(s))
	}
	return out
}

// wantTop returns the top of a list of hashes from the bottom up, without the shape of trees: neighbours are joined, and one without a neighbour waits for the next round.
func wantTop(l []api.Hash) api.Hash {
	if len(l) == 0 {
		return api.Hash{}
	}
	for len(l) > 1 {
		var next []api.Hash
		for i := 0; i+1 < len(l); i += 2 {
			next = append(next, node(l[i], l[i+1]))
		}
		if len(l)%2 == 1 {
			next = append(next, l[len(l)-1])
		}
		l = next
	}
	return l[0]
}

// wantRoot returns the root of a list.
func wantRoot(l []string) api.Hash { return rooted(len(l), wantTop(wantLeaves(l))) }

// hashes returns n different hashes.
func hashes(n int) []api.Hash {
	out := make([]api.Hash, n)
	for i := range out {
		out[i] = sum(9, []byte(strconv.Itoa(i)))
	}
	return out
}

// texts returns n different texts, the first of which is empty.
func texts(n int) []string {
	out := make([]string, n)
	for i := range out {
		out[i] = strings.Repeat("x", i%3) + strconv.Itoa(i)
	}
	if n > 0 {
		out[0] = ""
	}
	return out
}

// edges returns every length up to some dozens, and every power of two in the range with the numbers next to it.
func edges() []int {
	var out []int
	for n := range 100 {
		out = append(out, n)
	}
	for k := 7; k <= 12; k++ {
		out = append(out, 1<<k-1, 1<<k, 1<<k+1)
	}
	return out
}

// checkList compares Leaves and Root of a list, and the Top of its leaves, with what is wanted.
func checkList(t *testing.T, l []string) {
	t.Helper()
	if got, want := Leaves(l), wantLeaves(l); !slices.Equal(got, want) {
		t.Errorf("Leaves of %d texts = %x, want %x", len(l), got, want)
	}
	checkTop(t, wantLeaves(l), wantTop(wantLeaves(l)))
	checkRoot(t, l, wantRoot(l))
}

// checkTop compares Top of a list with what is wanted.
func checkTop(t *testing.T, l []api.Hash, want api.Hash) {
	t.Helper()
	if got := Top(l); got != want {
		t.Errorf("Top of %d hashes = %x, want %x", len(l), got, want)
	}
}

// checkRoot compares Root of a list with what is wanted.
func checkRoot(t *testing.T, l []string, want api.Hash) {
	t.Helper()
	if got := Root(l); got != want {
		t.Errorf("Root of %d texts = %x, want %x", len(l), got, want)
	}
}

// someLists are lists of empty, long, equal and contrived leaves.
func someLists() [][]string {
	a, b := leaf("a"), leaf("b")
	inner := node(a, b)
	long := strings.Repeat("0123456789", 100000)
	return [][]string{
		nil, {""}, {"", ""}, {"", "", ""}, {"", "", "", ""}, {"", "", "", "", ""},
		{"a"}, {"b"}, {"a", "a"}, {"a", "b"}, {"b", "a"}, {"ab"}, {"ab", ""}, {"", "ab"}, {"a", "b", ""}, {"a", "", "b"}, {"", "a", "b"},
		{"a", "b", "c"}, {"ab", "c"}, {"a", "bc"}, {"abc"}, {"a", "b", "a", "b"}, {"a", "b", "b"}, {"b", "a", "a"},
		{"\x00"}, {"\x00a"}, {"\x01"}, {"\x02"}, {"\x00a", "\x00b"}, {"é", "\xc3", "\xa9"},
		{string(a[:]) + string(b[:])}, {"\x01" + string(a[:]) + string(b[:])}, {string(a[:]), string(b[:])}, {string(inner[:])}, {string(inner[:]), "c"},
		{long}, {long, ""}, {"", long}, {long, long}, {"a", long, "b"}, {long[1:], long[:1]},
		{strings.Repeat("x", 54)}, {strings.Repeat("x", 55)}, {strings.Repeat("x", 63)}, {strings.Repeat("x", api.MaxTx)}, {strings.Repeat("\x00", 32)},
	}
}

// P12.1: nil and an empty list have no leaves, a zero top and one root.
func TestEmpty(t *testing.T) {
	for _, l := range [][]string{nil, {}, texts(2)[:0], make([]string, 0, 8)} {
		if got := Leaves(l); len(got) != 0 {
			t.Errorf("Leaves of no texts = %x", got)
		}
		checkRoot(t, l, rooted(0, api.Hash{}))
	}
	for _, l := range [][]api.Hash{nil, {}, hashes(2)[:0], make([]api.Hash, 0, 8)} {
		checkTop(t, l, api.Hash{})
	}
}

// The chapter's example: the root of an empty list is the hash of a byte 2, eight bytes 0 and 32 bytes 0.
func TestExample(t *testing.T) {
	want := api.Hash(sha256.Sum256([]byte("\x02" + strings.Repeat("\x00", 8) + strings.Repeat("\x00", 32))))
	checkRoot(t, nil, want)
	checkRoot(t, []string{}, want)
}

// P12.1: the top of one hash is that hash, whatever it is, and the root of one leaf counts it.
func TestOne(t *testing.T) {
	for _, h := range append(hashes(5), api.Hash{}, api.Hash{1}, api.Hash{31: 255}) {
		checkTop(t, []api.Hash{h}, h)
	}
	for _, s := range []string{"", "a", "\x00", strings.Repeat("x", 10000)} {
		if got := Leaves([]string{s}); len(got) != 1 || got[0] != leaf(s) {
			t.Errorf("Leaves of one text = %x", got)
		}
		checkRoot(t, []string{s}, rooted(1, leaf(s)))
	}
}

// P12.1: two elements, in their order, also equal ones.
func TestTwo(t *testing.T) {
	for _, a := range append(hashes(3), api.Hash{}) {
		for _, b := range append(hashes(3), api.Hash{}) {
			checkTop(t, []api.Hash{a, b}, node(a, b))
		}
	}
	for _, a := range []string{"", "a", "b"} {
		for _, b := range []string{"", "a", "b"} {
			l := []string{a, b}
			if got := Leaves(l); len(got) != 2 || got[0] != leaf(a) || got[1] != leaf(b) {
				t.Errorf("Leaves of %q = %x", l, got)
			}
			checkRoot(t, l, rooted(2, node(leaf(a), leaf(b))))
		}
	}
}

// P12.1: the tops of small trees, written out.
func TestSmallTrees(t *testing.T) {
	h := hashes(9)
	ab, cd, ef, gh := node(h[0], h[1]), node(h[2], h[3]), node(h[4], h[5]), node(h[6], h[7])
	abcd, efgh := node(ab, cd), node(ef, gh)
	for i, want := range []api.Hash{
		{}, h[0], ab, node(ab, h[2]), abcd, node(abcd, h[4]), node(abcd, ef), node(abcd, node(ef, h[6])), node(abcd, efgh), node(node(abcd, efgh), h[8]),
	} {
		checkTop(t, h[:i], want)
	}
}

// P12.1: the published tops of RFC 6962's test lists, whose trees have the same leaves, inner nodes and sides.
func TestPublishedTops(t *testing.T) {
	l := []string{"", "\x00", "\x10", "\x20\x21", "\x30\x31", "\x40\x41\x42\x43", "\x50\x51\x52\x53\x54\x55\x56\x57", "\x60\x61\x62\x63\x64\x65\x66\x67\x68\x69\x6a\x6b\x6c\x6d\x6e\x6f"}
	for i, want := range []string{
		"6e340b9cffb37a989ca544e6bb780a2c78901d3fb33738768511a30617afa01d",
		"fac54203e7cc696cf0dfcb42c92a1d9dbaf70ad9e621f4bd8d98662f00e3c125",
		"aeb6bcfe274b70a14fb067a5e5578264db0fa9b51af5e0ba159158f329e06e77",
		"d37ee418976dd95753c1c73862b9398fa2a2cf9b4ff0fdfe8b30cd95209614b7",
		"4e3bbb1f7b478dcfe71fb631631519a3bca12c9aefca1612bfce4c13a86264d4",
		"76e67dadbcdf1e10e1b74ddc608abd2f98dfb16fbce75277b5232a127f2087ef",
		"ddb89be403809e325750d3d263cd78929c2942b7942a34b77e122c9594a74c8c",
		"5dc9da79a70659a9ad559cb701ded9a2ab9d823aad2f4960cfe370eff4604328",
	} {
		top := Top(Leaves(l[:i+1]))
		if got := hex.EncodeToString(top[:]); got != want {
			t.Errorf("the top of the first %d = %s, want %s", i+1, got, want)
		}
		checkRoot(t, l[:i+1], rooted(i+1, top))
	}
}

// P12.1: every length up to some dozens, and the powers of two with the numbers next to them.
func TestLengths(t *testing.T) {
	for _, n := range edges() {
		l := hashes(n)
		checkTop(t, l, wantTop(l))
		// Equal hashes: only the shape of the tree tells the lengths apart.
		same := slices.Repeat([]api.Hash{{7}}, n)
		checkTop(t, same, wantTop(same))
		checkList(t, texts(n))
		checkList(t, make([]string, n))
	}
}

// P12.1: the most leaves that an opening may have, and one more: the tree itself has no limit.
func TestMostLeaves(t *testing.T) {
	l := hashes(api.MaxLeaves + 1)
	top := wantTop(l[:api.MaxLeaves])
	checkTop(t, l[:api.MaxLeaves], top)
	checkTop(t, l, node(top, l[api.MaxLeaves]))
}

// P12.1: empty, long, equal and contrived leaves.
func TestSomeLists(t *testing.T) {
	for _, l := range someLists() {
		checkList(t, l)
	}
}

// P12.1: the zero hash among others is a hash like them, and does not count as none.
func TestZeroHashes(t *testing.T) {
	for n := 1; n < 40; n++ {
		for at := range n {
			l := hashes(n)
			l[at] = api.Hash{}
			checkTop(t, l, wantTop(l))
		}
	}
}

// P12.1: lists of any length and content.
func TestAnyLists(t *testing.T) {
	r := rand.New(rand.NewSource(12))
	for range 300 {
		l := make([]string, r.Intn(200))
		for i := range l {
			b := make([]byte, r.Intn(1<<r.Intn(9)))
			r.Read(b)
			l[i] = string(b)
		}
		checkList(t, l)
	}
}

// P12.1: no list that is passed in is changed, nor what lies behind its end.
func TestListsStay(t *testing.T) {
	for _, n := range edges() {
		l, h := texts(n+3), hashes(n+3)
		Leaves(l[:n])
		Root(l[:n])
		Top(h[:n])
		if !slices.Equal(l, texts(n+3)) {
			t.Errorf("a list of %d texts was changed", n)
		}
		if !slices.Equal(h, hashes(n+3)) {
			t.Errorf("a list of %d hashes was changed", n)
		}
	}
}

// P12.1: what a caller holds is not changed by later calls, and writing to it changes no later result.
func TestResultsAreNew(t *testing.T) {
	l := texts(7)
	first, second := Leaves(l), Leaves(l)
	Root(l)
	Leaves(texts(9)[1:])
	want := wantLeaves(l)
	clear(first)
	if !slices.Equal(second, want) {
		t.Errorf("a list that was returned became %x, want %x", second, want)
	}
	checkList(t, l)
	l[3] = "other"
	if !slices.Equal(second, want) {
		t.Errorf("a list that was returned follows its argument: %x", second)
	}
	checkList(t, l)
}

// rootsSeen tells lists apart by their roots.
type rootsSeen map[api.Hash][]string

// add asks that no other list had the root of this one.
func (seen rootsSeen) add(t *testing.T, l []string) {
	t.Helper()
	root := Root(l)
	if other, ok := seen[root]; ok && !slices.Equal(other, l) {
		t.Errorf("lists of %d and %d texts have one root, %x", len(other), len(l), root)
	}
	seen[root] = slices.Clone(l)
}

// P12.2: lists of different lengths have different roots, also where one is the beginning of the other, and all leaves are equal.
func TestLengthsDiffer(t *testing.T) {
	seen := rootsSeen{}
	all := texts(300)
	for n := range 300 {
		seen.add(t, all[:n])
		seen.add(t, make([]string, n))
		seen.add(t, slices.Repeat([]string{"a"}, n))
		seen.add(t, slices.Repeat([]string{"\x00"}, n))
	}
}

// P12.2: lists that differ in one element have different roots, wherever it is.
func TestElementsDiffer(t *testing.T) {
	for _, n := range []int{1, 2, 3, 4, 5, 6, 7, 8, 9, 15, 16, 17, 31, 32, 33, 63, 64, 65, 100} {
		seen := rootsSeen{}
		seen.add(t, texts(n))
		for at := range n {
			for _, other := range []string{"other", texts(n)[at] + "\x00", "\x00" + texts(n)[at], texts(n)[(at+1)%n]} {
				l := texts(n)
				l[at] = other
				seen.add(t, l)
			}
		}
	}
}

// P12.2: lists that differ in the order of two elements have different roots, wherever they are.
func TestOrdersDiffer(t *testing.T) {
	for n := 2; n <= 35; n++ {
		seen := rootsSeen{}
		seen.add(t, texts(n))
		for i := range n {
			for k := range i {
				l := texts(n)
				l[i], l[k] = l[k], l[i]
				seen.add(t, l)
			}
		}
		if want := 1 + n*(n-1)/2; len(seen) != want {
			t.Errorf("%d roots of %d lists of %d texts", len(seen), want, n)
		}
	}
}

// P12.2: lists with an element more at any place, or one less, have different roots.
func TestLongerAndShorterDiffer(t *testing.T) {
	for _, n := range []int{0, 1, 2, 3, 4, 5, 7, 8, 9, 16, 17, 33} {
		seen := rootsSeen{}
		seen.add(t, texts(n))
		for at := range n + 1 {
			seen.add(t, slices.Insert(texts(n), at, "more"))
			seen.add(t, slices.Insert(texts(n), at, ""))
		}
		for at := range n {
			seen.add(t, slices.Delete(texts(n), at, at+1))
		}
	}
}

// P12.2: the same bytes in other elements, and elements made of other trees' hashes and texts.
func TestContrivedListsDiffer(t *testing.T) {
	seen := rootsSeen{}
	for _, l := range someLists() {
		seen.add(t, l)
	}
	if got, want := len(seen), len(someLists()); got != want {
		t.Errorf("%d roots of %d lists", got, want)
	}
}

// P12.2: a leaf that is the text of an inner node does not stand for the tree below it, at any place.
func TestNodesAreNoLeaves(t *testing.T) {
	for n := 2; n <= 20; n++ {
		seen := rootsSeen{}
		l := texts(n)
		seen.add(t, l)
		for i := 0; i+1 < n; i++ {
			a, b := leaf(l[i]), leaf(l[i+1])
			for _, text := range []string{string(a[:]) + string(b[:]), "\x01" + string(a[:]) + string(b[:])} {
				seen.add(t, slices.Replace(texts(n), i, i+2, text))
			}
		}
		if want := 1 + 2*(n-1); len(seen) != want {
			t.Errorf("%d roots of %d lists", len(seen), want)
		}
	}
}

// P12.2: a root is not the top below it, and counts the leaves of its own list.
func TestRootCountsLeaves(t *testing.T) {
	seen := map[api.Hash]int{}
	for _, n := range edges() {
		l := texts(n)
		root := Root(l)
		if other, ok := seen[root]; ok && other != n {
			t.Errorf("lists of %d and %d texts have one root", other, n)
		}
		seen[root] = n
		if root == Top(Leaves(l)) || root == rooted(n+1, wantTop(wantLeaves(l))) {
			t.Errorf("the root of %d texts is their top, or counts another number", n)
		}
	}
}

// Both sides of a list are those of a tree, of any kind of elements, and together they are the list.
func TestSplit(t *testing.T) {
	for n, want := range []int{0, 0, 1, 2, 2, 4, 4, 4, 4, 8} {
		l := texts(n)
		left, right := split(l)
		if len(left) != want || !slices.Equal(slices.Concat(left, right), l) {
			t.Errorf("split of %d texts = %q and %q", n, left, right)
		}
	}
	if left, right := split([]int{1, 2, 3}); !slices.Equal(left, []int{1, 2}) || !slices.Equal(right, []int{3}) {
		t.Errorf("split of 1, 2, 3 = %v and %v", left, right)
	}
}

// Each element of a list is mapped, in their order.
func TestMapped(t *testing.T) {
	if got := mapped([]int{3, 1, 2}, strconv.Itoa); !slices.Equal(got, []string{"3", "1", "2"}) {
		t.Errorf("mapped 3, 1, 2 = %q", got)
	}
	if got := mapped(nil, strconv.Itoa); len(got) != 0 {
		t.Errorf("mapped none = %q", got)
	}
}

// P12.1 and P12.2, for whatever lists: the parts of a text, and the same with two parts joined.
func FuzzTree(f *testing.F) {
	for _, s := range []string{"", ",", "a", "a,b", "b,a", "a,b,c", ",,,,", "\x00,\x01,\x02", "é,\xc3,\xa9,a,b,c,d,e,f"} {
		f.Add(s)
	}
	f.Fuzz(func(t *testing.T, s string) {
		l := strings.Split(s, ",")
		checkList(t, l)
		seen := rootsSeen{}
		seen.add(t, l)
		for i := range len(l) - 1 {
			seen.add(t, slices.Replace(slices.Clone(l), i, i+2, l[i]+l[i+1]))
		}
	})
}
