package hold

import (
	"bytes"
	"crypto/sha256"
	"encoding/binary"
	"encoding/hex"
	"math"
	"math/rand"
	"slices"
	"strconv"
	"strings"
	"testing"

	"milepost/api"
	"milepost/open"
	"milepost/tag"
	"milepost/tree"
)

// sum returns the library's hash of a tag byte and parts.
func sum(tag byte, parts ...[]byte) api.Hash {
	return sha256.Sum256(append([]byte{tag}, bytes.Join(parts, nil)...))
}

// leafOf returns the hash of a leaf, by the library.
func leafOf(s string) api.Hash { return sum(0, []byte(s)) }

// node returns the hash of an inner node, by the library.
func node(left, right api.Hash) api.Hash { return sum(1, left[:], right[:]) }

// rooted returns the hash of a root, by the library.
func rooted(n int, top api.Hash) api.Hash {
	return sum(2, binary.BigEndian.AppendUint64(nil, uint64(n)), top[:])
}

// rounds returns the hashes of a tree from the bottom up, without the shape of trees: neighbours are joined, and one without a neighbour waits for the next round.
func rounds(l []string) [][]api.Hash {
	var row []api.Hash
	for _, s := range l {
		row = append(row, leafOf(s))
	}
	all := [][]api.Hash{row}
	for len(row) > 1 {
		var next []api.Hash
		for i := 0; i+1 < len(row); i += 2 {
			next = append(next, node(row[i], row[i+1]))
		}
		if len(row)%2 == 1 {
			next = append(next, row[len(row)-1])
		}
		row = next
		all = append(all, row)
	}
	return all
}

// opened returns the opening of a leaf of a tree, and the hashes from that of the leaf to the top: of each round in which it has a neighbour, the neighbour and what both are joined to.
func opened(all [][]api.Hash, i int) (api.Opening, []api.Hash) {
	o := api.Opening{Index: i, Count: len(all[0])}
	up := []api.Hash{all[0][i]}
	for k, row := range all[:len(all)-1] {
		if i^1 < len(row) {
			o.Path = append(o.Path, row[i^1])
			up = append(up, all[k+1][i/2])
		}
		i /= 2
	}
	return o, up
}

// wantDepth returns how many elements the path of a leaf that exists has: one for each round in which it has a neighbour.
func wantDepth(n, i int) int {
	depth := 0
	for n > 1 {
		if i^1 < n {
			depth++
		}
		n, i = n/2+n%2, i/2
	}
	return depth
}

// wantMay returns what May should, by the numbers of an opening and the length of its path.
func wantMay(o api.Opening) api.Errno {
	there := o.Count >= 1 && o.Count <= 1<<20 && o.Index >= 0 && o.Index < o.Count
	if !there {
		return api.ErrRange
	}
	if len(o.Path) != wantDepth(o.Count, o.Index) {
		return api.ErrForm
	}
	return api.OK
}

// wantUp returns the hashes to which a valid opening leads from its leaf, by RFC 9162's way of checking an inclusion proof.
func wantUp(s string, o api.Opening) []api.Hash {
	at, last, h := o.Index, o.Count-1, leafOf(s)
	up := []api.Hash{h}
	for _, other := range o.Path {
		if at%2 == 1 || at == last {
			h = node(other, h)
			for at%2 == 0 && at != 0 {
				at, last = at/2, last/2
			}
		} else {
			h = node(h, other)
		}
		up = append(up, h)
		at, last = at/2, last/2
	}
	return up
}

// texts returns n different texts, the first of which is empty.
func texts(n int) []string {
	out := make([]string, n)
	for i := range out {
		out[i] = strings.Repeat("x", i%3) + strconv.Itoa(i)
	}
	if n > 0 {
		out[0] = ""
	}
	return out
}

// hashes returns n different hashes.
func hashes(n int) []api.Hash {
	out := make([]api.Hash, n)
	for i := range out {
		out[i] = sum(9, []byte(strconv.Itoa(i)))
	}
	return out
}

// edges returns every length from 1 up to some dozens, and every power of two up to 256 with the numbers next to it.
func edges() []int {
	var out []int
	for n := range 70 {
		out = append(out, n+1)
	}
	return append(out, 127, 128, 129, 255, 256, 257)
}

// with returns an opening with as many hashes as given.
func with(index, count, steps int) api.Opening {
	return api.Opening{Index: index, Count: count, Path: hashes(steps)}
}

// fitting returns a valid opening of arbitrary hashes.
func fitting(index, count int) api.Opening { return with(index, count, wantDepth(count, index)) }

// told describes an opening without its hashes.
func told(o api.Opening) string {
	return "index " + strconv.Itoa(o.Index) + ", count " + strconv.Itoa(o.Count) + ", " + strconv.Itoa(len(o.Path)) + " steps"
}

// checkMay compares May of an opening with what is wanted.
func checkMay(t *testing.T, o api.Opening, want api.Errno) {
	t.Helper()
	if got := May(o); got != want {
		t.Errorf("May of %s: %v, want %v", told(o), got, want)
	}
}

// checkUp compares all that is returned for a valid opening with the hashes that are wanted from its leaf to the top.
func checkUp(t *testing.T, s string, o api.Opening, want []api.Hash) {
	t.Helper()
	checkMay(t, o, api.OK)
	if len(want) != len(o.Path)+1 {
		t.Fatalf("%d hashes are wanted of %s", len(want), told(o))
	}
	if got := Up(s, o); !slices.Equal(got, want) {
		t.Errorf("Up(%.20q) of %s = %x, want %x", s, told(o), got, want)
	}
	root := rooted(o.Count, want[len(want)-1])
	if got, err := Root(s, o); got != root || err != api.OK {
		t.Errorf("Root(%.20q) of %s = %x, %v, want %x", s, told(o), got, err, root)
	}
	checkHolds(t, root, s, o, true)
	root[31] ^= 1
	checkHolds(t, root, s, o, false)
}

// checkHolds compares Check with what is wanted.
func checkHolds(t *testing.T, root api.Hash, s string, o api.Opening, want bool) {
	t.Helper()
	if got := Check(root, s, o); got != want {
		t.Errorf("Check(%x, %.20q) of %s = %v", root, s, told(o), got)
	}
}

// checkInvalid asks for the error of an opening that is not valid, that nothing else is returned, and that it holds for no root, not even for the zero hash that is returned with the error.
func checkInvalid(t *testing.T, s string, o api.Opening, want api.Errno) {
	t.Helper()
	checkMay(t, o, want)
	if got := Up(s, o); len(got) != 0 {
		t.Errorf("Up(%.20q) of %s = %x, want nil", s, told(o), got)
	}
	if got, err := Root(s, o); got != (api.Hash{}) || err != want {
		t.Errorf("Root(%.20q) of %s = %x, %v, want no root and %v", s, told(o), got, err, want)
	}
	for _, root := range []api.Hash{{}, leafOf(s), rooted(o.Count, leafOf(s)), rooted(1, leafOf(s)), rooted(o.Count, api.Hash{})} {
		checkHolds(t, root, s, o, false)
	}
}

// checkAny compares all that is returned for any opening with what is wanted.
func checkAny(t *testing.T, s string, o api.Opening) {
	t.Helper()
	if want := wantMay(o); want != api.OK {
		checkInvalid(t, s, o, want)
		return
	}
	checkUp(t, s, o, wantUp(s, o))
}

// P14.2: the chapter's example: for a single leaf the opening holds for RootSum(1, LeafSum), whatever the leaf is.
func TestExample(t *testing.T) {
	for _, s := range []string{"", "a", "\x00", "é", "\xff", strings.Repeat("x", 10000)} {
		for _, path := range [][]api.Hash{nil, {}, hashes(3)[:0]} {
			o := api.Opening{Index: 0, Count: 1, Path: path}
			checkUp(t, s, o, []api.Hash{leafOf(s)})
			checkHolds(t, tag.RootSum(1, tag.LeafSum(s)), s, o, true)
			checkHolds(t, tag.RootSum(1, tag.LeafSum(s)), s+"x", o, false)
			checkHolds(t, tag.RootSum(2, tag.LeafSum(s)), s, o, false)
			checkHolds(t, tag.LeafSum(s), s, o, false)
		}
	}
}

// P14.1: no opening, as it is returned with an error, is not valid.
func TestNoOpening(t *testing.T) {
	for _, s := range []string{"", "a"} {
		checkInvalid(t, s, api.Opening{}, api.ErrRange)
		checkInvalid(t, s, api.Opening{Path: []api.Hash{}}, api.ErrRange)
		checkInvalid(t, s, api.Opening{Path: make([]api.Hash, 1)}, api.ErrRange)
	}
}

// P14.1: openings written out, with the right number of steps and with others.
func TestMay(t *testing.T) {
	for _, c := range []struct {
		index, count, steps int
		want                api.Errno
	}{
		{0, 1, 0, api.OK}, {0, 1, 1, api.ErrForm}, {1, 1, 0, api.ErrRange}, {1, 1, 1, api.ErrRange},
		{0, 2, 1, api.OK}, {1, 2, 1, api.OK}, {0, 2, 0, api.ErrForm}, {1, 2, 2, api.ErrForm}, {2, 2, 1, api.ErrRange},
		{0, 3, 2, api.OK}, {1, 3, 2, api.OK}, {2, 3, 1, api.OK}, {2, 3, 2, api.ErrForm}, {0, 3, 1, api.ErrForm}, {3, 3, 1, api.ErrRange}, {3, 3, 2, api.ErrRange},
		{3, 4, 2, api.OK}, {0, 4, 2, api.OK}, {3, 4, 1, api.ErrForm}, {0, 4, 3, api.ErrForm},
		{0, 5, 3, api.OK}, {3, 5, 3, api.OK}, {4, 5, 1, api.OK}, {4, 5, 3, api.ErrForm}, {3, 5, 1, api.ErrForm},
		{4, 7, 3, api.OK}, {5, 7, 3, api.OK}, {6, 7, 2, api.OK}, {6, 7, 3, api.ErrForm},
		{0, 0, 0, api.ErrRange}, {-1, 0, 0, api.ErrRange}, {-1, 1, 0, api.ErrRange}, {0, -1, 0, api.ErrRange}, {-2, -1, 0, api.ErrRange},
	} {
		checkMay(t, with(c.index, c.count, c.steps), c.want)
	}
}

// P14.1: Counts at the edges, with an Index and a Path that fit them if any do.
func TestCounts(t *testing.T) {
	for _, count := range []int{1, 2, 3, api.MaxLeaves - 1, api.MaxLeaves} {
		for _, index := range []int{0, count / 2, count - 1} {
			checkAny(t, "a", fitting(index, count))
			checkMay(t, fitting(index, count), api.OK)
		}
	}
	for _, count := range []int{0, -1, -2, -api.MaxLeaves, math.MinInt32, math.MinInt + 1, math.MinInt} {
		for _, index := range []int{0, -1, 1, count, count - 1, count / 2} {
			checkInvalid(t, "a", with(index, count, 0), api.ErrRange)
		}
	}
	for _, count := range []int{api.MaxLeaves + 1, api.MaxLeaves + 2, 2 * api.MaxLeaves, math.MaxInt32, 1 << 32, 1<<32 + 1, math.MaxInt - 1, math.MaxInt} {
		for _, index := range []int{0, 1, count / 2, api.MaxLeaves - 1, api.MaxLeaves, count - 1} {
			checkInvalid(t, "a", fitting(index, count), api.ErrRange)
		}
	}
}

// P14.1: Indexes at the edges, with every number of steps that there could be.
func TestIndexes(t *testing.T) {
	for _, count := range []int{1, 2, 3, 4, 5, 8, 31, 32, 33, api.MaxLeaves - 1, api.MaxLeaves} {
		for steps := range 23 {
			for _, index := range []int{0, 1, count/2 - 1, count / 2, count - 2, count - 1} {
				checkAny(t, "a", with(index, count, steps))
			}
			for _, index := range []int{-1, -2, -count, -count - 1, count, count + 1, 2 * count, 1 << 32, 1<<32 + count - 1, math.MinInt, math.MinInt + 1, math.MinInt + count, math.MaxInt, math.MaxInt - 1} {
				checkInvalid(t, "a", with(index, count, steps), api.ErrRange)
			}
		}
	}
}

// P14.1: Paths of every length: empty, one element too short, as many as the path up has steps, one too long, and far too long.
func TestPathLengths(t *testing.T) {
	for _, n := range append(edges(), 1<<19, 1<<19+1, api.MaxLeaves-1, api.MaxLeaves) {
		for _, i := range []int{0, 1, n / 3, n / 2, n/2 + 1, n - 2, n - 1} {
			if i < 0 || i >= n {
				continue
			}
			depth := wantDepth(n, i)
			checkMay(t, with(i, n, depth), api.OK)
			for _, steps := range []int{0, 1, depth - 1, depth + 1, depth + 2, 2*depth + 1, 20, 21, 64, 256, 1000} {
				if steps >= 0 && steps != depth {
					checkInvalid(t, "a", with(i, n, steps), api.ErrForm)
				}
			}
			if depth > 0 {
				checkInvalid(t, "a", api.Opening{Index: i, Count: n}, api.ErrForm)
			}
		}
	}
}

// P14.1: of several faults the numbers come first, whatever the path is.
func TestOrder(t *testing.T) {
	for _, steps := range []int{0, 1, 2, 3, 19, 20, 21, 100} {
		for _, count := range []int{0, -1, api.MaxLeaves + 1, math.MinInt, math.MaxInt} {
			for _, index := range []int{0, 1, -1, count, count - 1, math.MinInt, math.MaxInt} {
				checkInvalid(t, "a", with(index, count, steps), api.ErrRange)
			}
		}
		for _, count := range []int{1, 2, 5, api.MaxLeaves} {
			for _, index := range []int{-1, count, math.MinInt, math.MaxInt} {
				checkInvalid(t, "a", with(index, count, steps), api.ErrRange)
			}
		}
	}
	checkInvalid(t, "a", with(4, 5, 2), api.ErrForm)
	checkInvalid(t, "a", with(5, 5, 2), api.ErrRange)
}

// P14.1: every Index beside and in every Count up to some dozens, with every number of steps.
func TestAllForms(t *testing.T) {
	for count := -2; count < 40; count++ {
		for index := -2; index < count+3; index++ {
			for steps := range 8 {
				checkMay(t, with(index, count, steps), wantMay(with(index, count, steps)))
			}
		}
	}
}

// P14.2: the hashes of small trees, written out.
func TestSmallTrees(t *testing.T) {
	a, b, c, d, e := leafOf("a"), leafOf("b"), leafOf("c"), leafOf("d"), leafOf("e")
	ab, cd := node(a, b), node(c, d)
	abc, abcd := node(ab, c), node(ab, cd)
	abcde := node(abcd, e)
	for _, x := range []struct {
		leaf     string
		index, n int
		path, up []api.Hash
	}{
		{"a", 0, 1, nil, []api.Hash{a}},
		{"a", 0, 2, []api.Hash{b}, []api.Hash{a, ab}},
		{"b", 1, 2, []api.Hash{a}, []api.Hash{b, ab}},
		{"a", 0, 3, []api.Hash{b, c}, []api.Hash{a, ab, abc}},
		{"b", 1, 3, []api.Hash{a, c}, []api.Hash{b, ab, abc}},
		{"c", 2, 3, []api.Hash{ab}, []api.Hash{c, abc}},
		{"a", 0, 4, []api.Hash{b, cd}, []api.Hash{a, ab, abcd}},
		{"b", 1, 4, []api.Hash{a, cd}, []api.Hash{b, ab, abcd}},
		{"c", 2, 4, []api.Hash{d, ab}, []api.Hash{c, cd, abcd}},
		{"d", 3, 4, []api.Hash{c, ab}, []api.Hash{d, cd, abcd}},
		{"a", 0, 5, []api.Hash{b, cd, e}, []api.Hash{a, ab, abcd, abcde}},
		{"b", 1, 5, []api.Hash{a, cd, e}, []api.Hash{b, ab, abcd, abcde}},
		{"d", 3, 5, []api.Hash{c, ab, e}, []api.Hash{d, cd, abcd, abcde}},
		{"e", 4, 5, []api.Hash{abcd}, []api.Hash{e, abcde}},
	} {
		checkUp(t, x.leaf, api.Opening{Index: x.index, Count: x.n, Path: x.path}, x.up)
	}
}

// P14.2: published inclusion proofs of RFC 6962's test lists lead to their published tops; the trees have the same leaves, inner nodes and sides.
func TestPublishedTops(t *testing.T) {
	l := []string{"", "\x00", "\x10", "\x20\x21", "\x30\x31", "\x40\x41\x42\x43", "\x50\x51\x52\x53\x54\x55\x56\x57", "\x60\x61\x62\x63\x64\x65\x66\x67\x68\x69\x6a\x6b\x6c\x6d\x6e\x6f"}
	for _, c := range []struct {
		n, i int
		path []string
		top  string
	}{
		{1, 0, nil, "6e340b9cffb37a989ca544e6bb780a2c78901d3fb33738768511a30617afa01d"},
		{8, 0, []string{"96a296d224f285c67bee93c30f8a309157f0daa35dc5b87e410b78630a09cfc7", "5f083f0a1a33ca076a95279832580db3e0ef4584bdff1f54c8a360f50de3031e", "6b47aaf29ee3c2af9af889bc1fb9254dabd31177f16232dd6aab035ca39bf6e4"}, "5dc9da79a70659a9ad559cb701ded9a2ab9d823aad2f4960cfe370eff4604328"},
		{8, 5, []string{"bc1a0643b12e4d2d7c77918f44e0f4f79a838b6cf9ec5b5c283e1f4d88599e6b", "ca854ea128ed050b41b35ffc1b87b8eb2bde461e9e3b5596ece6b9d5975a0ae0", "d37ee418976dd95753c1c73862b9398fa2a2cf9b4ff0fdfe8b30cd95209614b7"}, "5dc9da79a70659a9ad559cb701ded9a2ab9d823aad2f4960cfe370eff4604328"},
		{3, 2, []string{"fac54203e7cc696cf0dfcb42c92a1d9dbaf70ad9e621f4bd8d98662f00e3c125"}, "aeb6bcfe274b70a14fb067a5e5578264db0fa9b51af5e0ba159158f329e06e77"},
		{5, 1, []string{"6e340b9cffb37a989ca544e6bb780a2c78901d3fb33738768511a30617afa01d", "5f083f0a1a33ca076a95279832580db3e0ef4584bdff1f54c8a360f50de3031e", "bc1a0643b12e4d2d7c77918f44e0f4f79a838b6cf9ec5b5c283e1f4d88599e6b"}, "4e3bbb1f7b478dcfe71fb631631519a3bca12c9aefca1612bfce4c13a86264d4"},
	} {
		o := api.Opening{Index: c.i, Count: c.n}
		for _, s := range c.path {
			b, _ := hex.DecodeString(s)
			o.Path = append(o.Path, api.Hash(b))
		}
		up := Up(l[c.i], o)
		if len(up) != len(c.path)+1 {
			t.Errorf("Up of %s has %d hashes", told(o), len(up))
			continue
		}
		top := up[len(up)-1]
		if got := hex.EncodeToString(top[:]); got != c.top {
			t.Errorf("Up of %s ends with %s, want %s", told(o), got, c.top)
		}
		checkUp(t, l[c.i], o, wantUp(l[c.i], o))
	}
}

// P14.2: every leaf of every number of leaves up to some dozens, and of the powers of two with the numbers next to them: the first hash is that of the leaf, the last the top.
func TestAllLeaves(t *testing.T) {
	for _, n := range edges() {
		l := texts(n)
		all := rounds(l)
		for i, s := range l {
			o, up := opened(all, i)
			if up[0] != leafOf(s) || up[len(up)-1] != all[len(all)-1][0] {
				t.Fatalf("wanted hashes of %s do not lead from the leaf to the top", told(o))
			}
			checkUp(t, s, o, up)
		}
	}
}

// P14.2: equal leaves, which only their places tell apart.
func TestEqualLeaves(t *testing.T) {
	for n := 1; n < 40; n++ {
		l := slices.Repeat([]string{"a"}, n)
		all := rounds(l)
		for i := range l {
			o, up := opened(all, i)
			checkUp(t, "a", o, up)
		}
	}
	// Each of two equal leaves is opened by the other one's opening: there is nothing but the place that tells them apart.
	o := api.Opening{Index: 0, Count: 2, Path: []api.Hash{leafOf("a")}}
	root := rooted(2, node(leafOf("a"), leafOf("a")))
	checkHolds(t, root, "a", o, true)
	o.Index = 1
	checkHolds(t, root, "a", o, true)
}

// P14.2: an opening of arbitrary hashes, of which no list is known, determines a root like any other; also one of the greatest trees.
func TestArbitraryPaths(t *testing.T) {
	for _, n := range append(edges(), 1<<19-1, 1<<19, 1<<19+1, api.MaxLeaves-1, api.MaxLeaves) {
		for _, i := range []int{0, 1, n / 3, n/2 - 1, n / 2, n/2 + 1, n - 2, n - 1} {
			if i < 0 || i >= n {
				continue
			}
			o := fitting(i, n)
			checkUp(t, "a", o, wantUp("a", o))
			for _, h := range []api.Hash{{}, {31: 1}, leafOf("a")} {
				o.Path = slices.Repeat([]api.Hash{h}, len(o.Path))
				checkUp(t, "a", o, wantUp("a", o))
			}
		}
	}
}

// P14.2: empty, long and contrived leaves.
func TestSomeLeaves(t *testing.T) {
	a, b := leafOf("a"), leafOf("b")
	for _, s := range []string{"", "\x00", "\x00a", "\x01" + string(a[:]) + string(b[:]), string(a[:]) + string(b[:]), "\xff", "é", strings.Repeat("0123456789", 10000)} {
		for _, n := range []int{1, 2, 3, 7, 8, 9} {
			for i := range n {
				o := fitting(i, n)
				checkUp(t, s, o, wantUp(s, o))
			}
		}
	}
}

// P14.2: an opening holds for its own leaf only.
func TestOtherLeaf(t *testing.T) {
	for _, n := range edges() {
		l := texts(n)
		all := rounds(l)
		for _, i := range []int{0, n / 2, n - 1} {
			o, up := opened(all, i)
			root := rooted(n, up[len(up)-1])
			for k, s := range l {
				checkHolds(t, root, s, o, k == i)
			}
			for _, s := range []string{"other", l[i] + "\x00", "\x00" + l[i], l[i] + " ", string(up[0][:])} {
				checkHolds(t, root, s, o, false)
			}
		}
	}
}

// P14.2: an opening holds for its own root only: not for one that differs in a bit, nor for that of another number, nor for another hash of the tree.
func TestOtherRoot(t *testing.T) {
	for _, n := range []int{1, 2, 3, 4, 5, 7, 8, 9, 33} {
		l := texts(n)
		all := rounds(l)
		for i, s := range l {
			o, up := opened(all, i)
			top := up[len(up)-1]
			root := rooted(n, top)
			for k := range root {
				for bit := range 8 {
					other := root
					other[k] ^= 1 << bit
					checkHolds(t, other, s, o, false)
				}
			}
			for _, other := range append(slices.Concat(all...), api.Hash{}, rooted(n-1, top), rooted(n+1, top), rooted(0, top), rooted(n, root)) {
				checkHolds(t, other, s, o, false)
			}
		}
	}
}

// P14.2: an opening of different leaves holds at its own Index only.
func TestOtherIndex(t *testing.T) {
	for _, n := range edges() {
		l := texts(n)
		all := rounds(l)
		for _, i := range []int{0, n / 3, n / 2, n - 1} {
			o, up := opened(all, i)
			root := rooted(n, up[len(up)-1])
			for index := -2; index < n+2; index++ {
				o.Index = index
				checkHolds(t, root, l[i], o, index == i)
			}
			for _, index := range []int{i + 1<<32, i - 1<<32, math.MinInt, math.MaxInt, math.MinInt + i} {
				o.Index = index
				checkHolds(t, root, l[i], o, false)
			}
		}
	}
}

// P14.2: an opening holds with its own Count only, also where the path of another one has the same sides.
func TestOtherCount(t *testing.T) {
	for _, n := range edges() {
		l := texts(n)
		all := rounds(l)
		for _, i := range []int{0, n / 2, n - 1} {
			o, up := opened(all, i)
			root := rooted(n, up[len(up)-1])
			for count := -2; count < 2*n+5; count++ {
				o.Count = count
				checkHolds(t, root, l[i], o, count == n)
			}
			for _, count := range []int{n + 1<<32, api.MaxLeaves, api.MaxLeaves + 1, math.MinInt, math.MaxInt} {
				o.Count = count
				checkHolds(t, root, l[i], o, false)
			}
		}
	}
	// Leaf 0 of 3 and of 4 goes up two left sides, with one top, so that only the root's number of leaves tells them apart.
	o, other := with(0, 3, 2), with(0, 4, 2)
	root := rooted(3, wantUp("a", o)[2])
	checkHolds(t, root, "a", o, true)
	checkHolds(t, root, "a", other, false)
	if up := Up("a", other); !slices.Equal(up, Up("a", o)) {
		t.Errorf("one path with one hash has two tops: %x", up)
	}
}

// P14.2: an opening does not hold with an element of Path that is changed in any byte, or replaced.
func TestOtherElement(t *testing.T) {
	for _, n := range []int{2, 3, 5, 8, 9, 33, 64, 257} {
		l := texts(n)
		all := rounds(l)
		for _, i := range []int{0, n / 2, n - 1} {
			o, up := opened(all, i)
			root := rooted(n, up[len(up)-1])
			for k := range o.Path {
				for at := range len(api.Hash{}) {
					other := o
					other.Path = slices.Clone(o.Path)
					other.Path[k][at]++
					checkHolds(t, root, l[i], other, false)
				}
				for _, h := range []api.Hash{{}, up[k], up[k+1], root} {
					other := o
					other.Path = slices.Clone(o.Path)
					other.Path[k] = h
					checkHolds(t, root, l[i], other, false)
				}
			}
			checkHolds(t, root, l[i], o, true)
		}
	}
}

// P14.2: an opening does not hold with two elements of Path that are exchanged.
func TestOtherOrder(t *testing.T) {
	for _, n := range []int{3, 4, 5, 8, 9, 33, 64, 257} {
		l := texts(n)
		all := rounds(l)
		for _, i := range []int{0, 1, n / 2, n - 1} {
			o, up := opened(all, i)
			root := rooted(n, up[len(up)-1])
			for a := range o.Path {
				for b := range a {
					other := o
					other.Path = slices.Clone(o.Path)
					other.Path[a], other.Path[b] = other.Path[b], other.Path[a]
					checkHolds(t, root, l[i], other, false)
				}
			}
		}
	}
}

// P14.2: an opening does not hold with an element of Path that is missing or additional, wherever.
func TestOtherLength(t *testing.T) {
	for _, n := range []int{1, 2, 3, 5, 8, 9, 33, 64, 257} {
		l := texts(n)
		all := rounds(l)
		for _, i := range []int{0, n / 2, n - 1} {
			o, up := opened(all, i)
			root := rooted(n, up[len(up)-1])
			for k := range len(o.Path) + 1 {
				for _, h := range []api.Hash{{}, leafOf(l[i]), root} {
					other := o
					other.Path = slices.Insert(slices.Clone(o.Path), k, h)
					checkInvalid(t, l[i], other, api.ErrForm)
					checkHolds(t, root, l[i], other, false)
				}
				if k < len(o.Path) {
					other := o
					other.Path = slices.Delete(slices.Clone(o.Path), k, k+1)
					checkInvalid(t, l[i], other, api.ErrForm)
					checkHolds(t, root, l[i], other, false)
				}
			}
		}
	}
}

// P14.2: an opening that is not valid holds for no root, not even for that which its path would lead to.
func TestInvalidHoldsNowhere(t *testing.T) {
	for _, n := range []int{1, 2, 3, 4, 5, 8, 9} {
		for steps := range 6 {
			o := with(0, n, steps)
			h := leafOf("a")
			for _, other := range o.Path {
				h = node(h, other)
			}
			checkHolds(t, rooted(n, h), "a", o, wantMay(o) == api.OK)
		}
	}
	checkHolds(t, rooted(0, leafOf("a")), "a", with(0, 0, 0), false)
	checkHolds(t, rooted(0, api.Hash{}), "", with(0, 0, 0), false)
	checkHolds(t, rooted(2*api.MaxLeaves, wantUp("a", fitting(0, 2*api.MaxLeaves))[21]), "a", fitting(0, 2*api.MaxLeaves), false)
}

// P14.3: what open creates is valid, and holds for its leaf and the root of its list.
func TestOpenedHolds(t *testing.T) {
	for _, n := range edges() {
		l := texts(n)
		root := tree.Root(l)
		for i, s := range l {
			o, err := open.Open(l, i)
			if err != api.OK {
				t.Errorf("Open of %d texts at %d: %v", n, i, err)
			}
			checkMay(t, o, api.OK)
			checkHolds(t, root, s, o, true)
			checkHolds(t, root, s+"x", o, false)
			if got, err := Root(s, o); got != root || err != api.OK {
				t.Errorf("Root of %s = %x, %v, want %x", told(o), got, err, root)
			}
			up := Up(s, o)
			if len(up) != len(o.Path)+1 || up[0] != tag.LeafSum(s) || up[len(up)-1] != tree.Top(tree.Leaves(l)) {
				t.Errorf("Up of %s = %x, which does not lead from the leaf to the top", told(o), up)
			}
		}
	}
}

// P14.3: openings of equal, empty, long and contrived leaves.
func TestOpenedOfSomeLists(t *testing.T) {
	a, b := leafOf("a"), leafOf("b")
	long := strings.Repeat("0123456789", 10000)
	for _, l := range [][]string{
		{""}, {"", ""}, {"a", "a"}, {"", "", ""}, {"a", "a", "a", "b"}, {"a", "b", "a", "b", "a"}, {"\x00a", "\x00b", "\x01"}, {"é", "\xc3", "\xa9"},
		{string(a[:]) + string(b[:]), "c"}, {"\x01" + string(a[:]) + string(b[:]), "c"}, {long, ""}, {"", long}, {long, long, long}, {"a", long[1:], "b", long[:1], "c"},
	} {
		for i, s := range l {
			o, _ := open.Open(l, i)
			checkHolds(t, tree.Root(l), s, o, true)
			checkUp(t, s, o, wantUp(s, o))
		}
	}
}

// P14.3: openings of a list as long as may be.
func TestOpenedOfMostLeaves(t *testing.T) {
	l := texts(api.MaxLeaves)
	root := tree.Root(l)
	for _, i := range []int{0, api.MaxLeaves - 1} {
		o, _ := open.Open(l, i)
		checkUp(t, l[i], o, wantUp(l[i], o))
		checkHolds(t, root, l[i], o, true)
		checkHolds(t, root, l[1], o, false)
	}
}

// P14.3: an opening of one list does not hold for the root of another one, nor for another of its leaves.
func TestOpenedOfOtherLists(t *testing.T) {
	var roots []api.Hash
	for n := range 12 {
		roots = append(roots, tree.Root(texts(n)))
	}
	for n := range 12 {
		l := texts(n)
		for i := range l {
			o, _ := open.Open(l, i)
			for k, root := range roots {
				for at, s := range l {
					checkHolds(t, root, s, o, k == n && at == i)
				}
			}
		}
	}
}

// P14.1 and P14.2: no opening that is passed in is changed, nor what lies behind the end of its path.
func TestOpeningsStay(t *testing.T) {
	for n := 1; n < 20; n++ {
		for i := -1; i <= n; i++ {
			for steps := range 7 {
				path := hashes(steps + 3)
				o := api.Opening{Index: i, Count: n, Path: path[:steps]}
				May(o)
				Up("a", o)
				Root("a", o)
				Check(api.Hash{}, "a", o)
				if !slices.Equal(path, hashes(steps+3)) {
					t.Errorf("the path of %s was changed", told(o))
				}
			}
		}
	}
}

// P14.2: what a caller holds is not changed by later calls, and writing to it changes neither the opening nor a later result.
func TestResultsAreNew(t *testing.T) {
	o := fitting(2, 7)
	want := wantUp("a", o)
	first, second := Up("a", o), Up("a", o)
	Up("b", o)
	clear(first)
	_ = append(first, hashes(4)...)
	if !slices.Equal(second, want) || !slices.Equal(o.Path, hashes(3)) {
		t.Errorf("a list that was returned became %x, and the path %x", second, o.Path)
	}
	clear(o.Path)
	if !slices.Equal(second, want) {
		t.Errorf("a list that was returned follows its argument: %x", second)
	}
	checkUp(t, "a", o, wantUp("a", o))
}

// P14.1 and P14.2: openings of any numbers, paths and leaves.
func TestAnyOpenings(t *testing.T) {
	r := rand.New(rand.NewSource(14))
	for range 3000 {
		count := r.Intn(1<<r.Intn(22)+1) - 1
		o := fitting(0, max(count, 1))
		if count > 0 {
			o = fitting(r.Intn(count), count)
		}
		switch r.Intn(8) {
		case 0:
			o.Path = hashes(r.Intn(24))
		case 1:
			o.Index = r.Int() - r.Int()
		case 2:
			o.Count = count
		}
		checkAny(t, strings.Repeat("a", r.Intn(100)), o)
	}
}

// P14.1 and P14.2, for whatever openings and leaves, and P14.3, for whatever lists.
func FuzzHold(f *testing.F) {
	f.Add("", 0, 1, 0)
	f.Add("a,b,c", 2, 3, 1)
	f.Add(",,,,", -1, 0, 2)
	f.Add("\x00,\x01", math.MaxInt, math.MinInt, 21)
	f.Add("é", api.MaxLeaves-1, api.MaxLeaves, 20)
	f.Fuzz(func(t *testing.T, s string, index, count, steps int) {
		steps = max(0, min(steps, 100))
		checkAny(t, s, with(index, count, steps))
		l := strings.Split(s, ",")
		for i, x := range l {
			o, err := open.Open(l, i)
			if err != api.OK || !Check(tree.Root(l), x, o) {
				t.Errorf("the opening of %q at %d does not hold: %v", l, i, err)
			}
		}
	})
}
