package clash

import (
	"bytes"
	"crypto/sha256"
	"encoding/binary"
	"math"
	"math/rand"
	"slices"
	"strconv"
	"strings"
	"testing"

	"milepost/api"
	"milepost/open"
	"milepost/tag"
	"milepost/tree"
)

// sum returns the library's hash of a text.
func sum(s string) api.Hash { return sha256.Sum256([]byte(s)) }

// bytesOf returns the bytes of a hash.
func bytesOf(h api.Hash) string { return string(h[:]) }

// leafText returns the text of a leaf, written out.
func leafText(s string) string { return "\x00" + s }

// nodeText returns the text of an inner node, given the texts of both sides.
func nodeText(left, right string) string { return "\x01" + bytesOf(sum(left)) + bytesOf(sum(right)) }

// rootText returns the text of a root, given the text of the top.
func rootText(n int, top string) string {
	return "\x02" + string(binary.BigEndian.AppendUint64(nil, uint64(n))) + bytesOf(sum(top))
}

// wantTexts returns the texts of a leaf whose opening is valid, from the bottom up by RFC 9162's way of checking an inclusion proof, and then turned round.
func wantTexts(l Leaf) []string {
	at, last, s := l.Open.Index, l.Open.Count-1, leafText(l.Text)
	out := []string{s}
	for _, other := range l.Open.Path {
		if at%2 == 1 || at == last {
			s = "\x01" + bytesOf(other) + bytesOf(sum(s))
			for at%2 == 0 && at != 0 {
				at, last = at/2, last/2
			}
		} else {
			s = "\x01" + bytesOf(sum(s)) + bytesOf(other)
		}
		out = append(out, s)
		at, last = at/2, last/2
	}
	out = append(out, rootText(l.Open.Count, s))
	slices.Reverse(out)
	return out
}

// wantPlaces returns, for each text but the last, where it holds the hash of the next one, which only the numbers of an opening determine.
func wantPlaces(index, count int) []int {
	out := []int{9}
	for count > 1 {
		left := 1
		for 2*left < count {
			left *= 2
		}
		if index < left {
			out, count = append(out, 1), left
		} else {
			out, index, count = append(out, 33), index-left, count-left
		}
	}
	return out
}

// leaves returns n different texts, the first of which is empty.
func leaves(n int) []string {
	out := make([]string, n)
	for i := range out {
		out[i] = strings.Repeat("x", i%3) + strconv.Itoa(i)
	}
	if n > 0 {
		out[0] = ""
	}
	return out
}

// hashes returns n different hashes.
func hashes(n int) []api.Hash {
	out := make([]api.Hash, n)
	for i := range out {
		out[i] = sum("hash " + strconv.Itoa(i))
	}
	return out
}

// edges returns every length from 1 up to some dozens, and every power of two up to 256 with the numbers next to it.
func edges() []int {
	var out []int
	for n := range 36 {
		out = append(out, n+1)
	}
	return append(out, 63, 64, 65, 127, 128, 129, 255, 256, 257)
}

// opened returns every leaf of a list with its opening, and the list's root.
func opened(t *testing.T, l []string) ([]Leaf, api.Hash) {
	t.Helper()
	var out []Leaf
	for i, s := range l {
		o, err := open.Open(l, i)
		if err != api.OK {
			t.Fatalf("Open of %d texts at %d: %v", len(l), i, err)
		}
		out = append(out, Leaf{s, o})
	}
	return out, tree.Root(l)
}

// fitting returns a leaf with a valid opening of arbitrary hashes.
func fitting(s string, index, count int) Leaf {
	return Leaf{s, api.Opening{Index: index, Count: count, Path: hashes(len(wantPlaces(index, count)) - 1)}}
}

// with returns a leaf that has another text, by the same opening.
func (l Leaf) with(s string) Leaf { return Leaf{s, l.Open} }

// at returns a leaf whose opening has another Index.
func (l Leaf) at(index int) Leaf {
	l.Open.Index = index
	return l
}

// of returns a leaf whose opening has another Count.
func (l Leaf) of(count int) Leaf {
	l.Open.Count = count
	return l
}

// by returns a leaf whose opening has another Path.
func (l Leaf) by(path ...api.Hash) Leaf {
	l.Open.Path = path
	return l
}

// told describes a leaf without its hashes.
func told(l Leaf) string {
	o := l.Open
	return strconv.Quote(l.Text[:min(20, len(l.Text))]) + " (index " + strconv.Itoa(o.Index) + ", count " + strconv.Itoa(o.Count) + ", " + strconv.Itoa(len(o.Path)) + " steps)"
}

// checkIs compares Is with what is wanted, in both orders.
func checkIs(t *testing.T, a, b string, want bool) {
	t.Helper()
	if Is(a, b) != want || Is(b, a) != want {
		t.Errorf("Is(%.80q, %.80q) is not %v", a, b, want)
	}
}

// checkNone asks that nothing is found, in both orders, and that nothing that was passed in is changed.
func checkNone(t *testing.T, root api.Hash, a, b Leaf) {
	t.Helper()
	pathA, pathB := slices.Clone(a.Open.Path), slices.Clone(b.Open.Path)
	for _, pair := range [][2]Leaf{{a, b}, {b, a}} {
		if x, y, is := Find(root, pair[0], pair[1]); x != "" || y != "" || is {
			t.Errorf("Find of %s and %s = %q, %q, %v", told(pair[0]), told(pair[1]), x, y, is)
		}
		if contradict(root, pair[0], pair[1]) {
			t.Errorf("%s and %s contradict each other", told(pair[0]), told(pair[1]))
		}
	}
	if !slices.Equal(a.Open.Path, pathA) || !slices.Equal(b.Open.Path, pathB) {
		t.Errorf("a path of %s or %s was changed", told(a), told(b))
	}
}

// checkTexts compares the texts of a leaf whose opening is valid with what is wanted, and asks that each holds the hash of the next one.
func checkTexts(t *testing.T, l Leaf) {
	t.Helper()
	got := texts(l)
	if !slices.Equal(got, wantTexts(l)) {
		t.Errorf("texts of %s = %q, want %q", told(l), got, wantTexts(l))
	}
	if len(got) != len(l.Open.Path)+2 {
		t.Fatalf("%d texts of %s", len(got), told(l))
	}
	if places := wantPlaces(l.Open.Index, l.Open.Count); len(places) != len(got)-1 {
		t.Fatalf("%d texts of %s, which has %d places", len(got), told(l), len(places))
	}
	for i, place := range wantPlaces(l.Open.Index, l.Open.Count) {
		if got[i][place:place+32] != bytesOf(sum(got[i+1])) {
			t.Errorf("text %d of %s does not hold the hash of the next one at %d", i, told(l), place)
		}
	}
}

// checkUnlike compares the first two different texts of two lists with what is wanted, in both orders.
func checkUnlike(t *testing.T, a, b []string, x, y string, is bool) {
	t.Helper()
	if gotX, gotY, got := unlike(a, b); gotX != x || gotY != y || got != is {
		t.Errorf("unlike(%q, %q) = %q, %q, %v, want %q, %q, %v", a, b, gotX, gotY, got, x, y, is)
	}
	if gotY, gotX, got := unlike(b, a); gotX != x || gotY != y || got != is {
		t.Errorf("unlike(%q, %q) = %q, %q, %v, want %q, %q, %v", b, a, gotY, gotX, got, y, x, is)
	}
}

// P15.2: the chapter's example: for an opening and itself, with the same leaf, nothing is found.
func TestExample(t *testing.T) {
	for _, n := range edges() {
		all, root := opened(t, leaves(n))
		for _, l := range all {
			checkNone(t, root, l, l)
			checkNone(t, root, l, l.by(slices.Clone(l.Open.Path)...))
		}
	}
}

// P15.1: a text and itself are no collision, whatever it is.
func TestIsOfEqualTexts(t *testing.T) {
	for _, s := range []string{"", "a", "\x00", "\xff", "é", strings.Repeat("x", 55), strings.Repeat("x", 56), strings.Repeat("x", 64), strings.Repeat("x", 100000)} {
		checkIs(t, s, s, false)
		checkIs(t, s, strings.Clone(s), false)
		checkIs(t, s, string([]byte(s)), false)
	}
}

// P15.1: different texts, of which no two with one hash are known; also those that only the padding of their hash could make alike.
func TestIsOfDifferentTexts(t *testing.T) {
	a := sum("a")
	l := []string{
		"", "a", "b", "A", "a ", "aa", "ab", "ba", "\x00", "\x00\x00", "\x00a", "a\x00", "\x80", "a\x80", "\xff", "é",
		"a\x80" + strings.Repeat("\x00", 61) + "\x08", "\x80" + strings.Repeat("\x00", 63), strings.Repeat("\x00", 64),
		strings.Repeat("x", 55), strings.Repeat("x", 56), strings.Repeat("x", 63), strings.Repeat("x", 64), strings.Repeat("x", 65), strings.Repeat("x", 100000),
		bytesOf(a), tag.LeafText("a\x00"), tag.NodeText(a, a), tag.RootText(1, a), tag.RootText(2, a), tag.HeaderText("a"),
	}
	for i, x := range l {
		for k, y := range l {
			if (i == k) != (x == y) {
				t.Fatalf("%q is there twice", x)
			}
			checkIs(t, x, y, false)
		}
	}
}

// P15.1: texts that differ in a single bit, at any place.
func TestIsOfNearTexts(t *testing.T) {
	for n := range 130 {
		s := strings.Repeat("x", n)
		for i := range n {
			b := []byte(s)
			b[i] ^= 1 << (i % 8)
			checkIs(t, s, string(b), false)
		}
		checkIs(t, s, s+"x", false)
	}
}

// P15.1: any texts: the library's hashes say the same.
func TestIsOfAnyTexts(t *testing.T) {
	r := rand.New(rand.NewSource(15))
	for range 2000 {
		a, b := make([]byte, r.Intn(3)), make([]byte, r.Intn(3))
		for i := range a {
			a[i] = byte(r.Intn(2))
		}
		for i := range b {
			b[i] = byte(r.Intn(2))
		}
		checkIs(t, string(a), string(b), !bytes.Equal(a, b) && sum(string(a)) == sum(string(b)))
	}
}

// P15.2: the texts of small trees, written out.
func TestSmallTrees(t *testing.T) {
	a, b, c, d, e := leafText("a"), leafText("b"), leafText("c"), leafText("d"), leafText("e")
	ab, cd := nodeText(a, b), nodeText(c, d)
	abc, abcd := nodeText(ab, c), nodeText(ab, cd)
	abcde := nodeText(abcd, e)
	for _, x := range []struct {
		list string
		want [][]string
	}{
		{"a", [][]string{{rootText(1, a), a}}},
		{"ab", [][]string{{rootText(2, ab), ab, a}, {rootText(2, ab), ab, b}}},
		{"abc", [][]string{{rootText(3, abc), abc, ab, a}, {rootText(3, abc), abc, ab, b}, {rootText(3, abc), abc, c}}},
		{"abcd", [][]string{{rootText(4, abcd), abcd, ab, a}, {rootText(4, abcd), abcd, ab, b}, {rootText(4, abcd), abcd, cd, c}, {rootText(4, abcd), abcd, cd, d}}},
		{"abcde", [][]string{
			{rootText(5, abcde), abcde, abcd, ab, a}, {rootText(5, abcde), abcde, abcd, ab, b},
			{rootText(5, abcde), abcde, abcd, cd, c}, {rootText(5, abcde), abcde, abcd, cd, d}, {rootText(5, abcde), abcde, e},
		}},
	} {
		all, root := opened(t, strings.Split(x.list, ""))
		for i, l := range all {
			if got := texts(l); !slices.Equal(got, x.want[i]) {
				t.Errorf("texts of %s = %q, want %q", told(l), got, x.want[i])
			}
			if sum(x.want[i][0]) != root {
				t.Errorf("the first text of %s is not that of the root", told(l))
			}
			checkTexts(t, l)
		}
	}
}

// P15.2 and P15.3: the texts of every leaf of every number of leaves up to some dozens, and of the powers of two with the numbers next to them, lead from the root to the leaf.
func TestTextsOfAllLeaves(t *testing.T) {
	for _, n := range edges() {
		l := leaves(n)
		all, root := opened(t, l)
		for i, x := range all {
			checkTexts(t, x)
			got := texts(x)
			if sum(got[0]) != root || got[len(got)-1] != leafText(l[i]) {
				t.Errorf("texts of %s do not lead from the root to the leaf: %q", told(x), got)
			}
		}
	}
}

// P15.2 and P15.3: the texts of valid openings of arbitrary hashes, of which no list is known; also of the greatest trees. Whatever the leaf and the path are, each text holds the hash of the next one at the same place, so that texts which follow equal ones have one hash.
func TestTextsOfArbitraryPaths(t *testing.T) {
	for _, n := range append(edges(), 1<<19-1, 1<<19, 1<<19+1, api.MaxLeaves-1, api.MaxLeaves) {
		for _, i := range []int{0, 1, n / 3, n/2 - 1, n / 2, n/2 + 1, n - 2, n - 1} {
			if i < 0 || i >= n {
				continue
			}
			for _, s := range []string{"", "a", "\x00", bytesOf(sum("a")), tag.NodeText(sum("a"), sum("b")), strings.Repeat("0123456789", 1000)} {
				checkTexts(t, fitting(s, i, n))
			}
			l := fitting("a", i, n)
			for _, h := range []api.Hash{{}, {31: 1}, sum(leafText("a"))} {
				checkTexts(t, l.by(slices.Repeat([]api.Hash{h}, len(l.Open.Path))...))
			}
		}
	}
}

// P15.2: the first two different texts, position by position.
func TestUnlike(t *testing.T) {
	for _, c := range []struct {
		a, b []string
		x, y string
		is   bool
	}{
		{nil, nil, "", "", false},
		{[]string{"a"}, []string{"a"}, "", "", false},
		{[]string{"a", "b", "c"}, []string{"a", "b", "c"}, "", "", false},
		{[]string{"a"}, []string{"b"}, "a", "b", true},
		{[]string{""}, []string{"b"}, "", "b", true},
		{[]string{"a", "b", "c"}, []string{"x", "b", "c"}, "a", "x", true},
		{[]string{"a", "b", "c"}, []string{"a", "x", "c"}, "b", "x", true},
		{[]string{"a", "b", "c"}, []string{"a", "b", "x"}, "c", "x", true},
		{[]string{"a", "b", "c"}, []string{"a", "x", "y"}, "b", "x", true},
		{[]string{"a", "b", "c"}, []string{"x", "y", "z"}, "a", "x", true},
		{[]string{"a", "b", "c"}, []string{"b", "a", "c"}, "a", "b", true},
		{[]string{"a", "b", "c"}, []string{"x", "b"}, "a", "x", true},
		{[]string{"a", "b", "c"}, []string{"a", "c"}, "b", "c", true},
		{[]string{"a", "b", "c"}, []string{"a", "b"}, "", "", false},
		{[]string{"a"}, nil, "", "", false},
	} {
		checkUnlike(t, c.a, c.b, c.x, c.y, c.is)
	}
}

// P15.2: wherever the texts of an opened leaf first differ from others, both are returned, whatever follows them.
func TestUnlikeAtEveryPosition(t *testing.T) {
	for _, n := range []int{1, 2, 3, 4, 5, 8, 33, api.MaxLeaves} {
		for _, i := range []int{0, n / 2, n - 1} {
			down := texts(fitting("a", i, n))
			checkUnlike(t, down, slices.Clone(down), "", "", false)
			for k, s := range down {
				other := slices.Clone(down)
				other[k] += "x"
				checkUnlike(t, down, other, s, s+"x", true)
				for at := k + 1; at < len(other); at++ {
					other[at] = "x"
				}
				checkUnlike(t, down, other, s, s+"x", true)
			}
		}
	}
}

// P15.2: the texts of two leaves of one list first differ below the last inner node that both paths down pass.
func TestWherePathsPart(t *testing.T) {
	for _, n := range []int{2, 3, 4, 5, 7, 8, 9, 16, 17, 33} {
		all, _ := opened(t, leaves(n))
		for i, a := range all {
			for k, b := range all[:i] {
				placesA, placesB := wantPlaces(i, n), wantPlaces(k, n)
				shared := 0
				for placesA[shared] == placesB[shared] {
					shared++
				}
				x, y := wantTexts(a)[shared+1], wantTexts(b)[shared+1]
				checkUnlike(t, texts(a), texts(b), x, y, true)
				checkIs(t, x, y, false)
			}
		}
	}
}

// P15.2: openings of one list at two places, with different leaves and with equal ones.
func TestTwoPlaces(t *testing.T) {
	for n := 2; n < 36; n++ {
		all, root := opened(t, leaves(n))
		same, rootOfSame := opened(t, slices.Repeat([]string{"a"}, n))
		for i := range n {
			for k := range i {
				checkNone(t, root, all[i], all[k])
				checkNone(t, rootOfSame, same[i], same[k])
			}
		}
	}
}

// P15.2: one opening with two leaves: it holds for one of them only, in whichever order they come.
func TestOtherLeaf(t *testing.T) {
	for _, n := range edges() {
		l := leaves(n)
		all, root := opened(t, l)
		for _, i := range []int{0, n / 2, n - 1} {
			for _, s := range []string{"other", l[i] + "\x00", "\x00" + l[i], l[i] + " ", l[0], l[n-1], bytesOf(sum(leafText(l[i]))), strings.Repeat("x", 10000)} {
				checkNone(t, root, all[i], all[i].with(s))
				checkNone(t, root, all[i].with(s), all[i].with(s))
				checkNone(t, root, all[i].with(s+"y"), all[i].with(s))
			}
		}
	}
}

// P15.2: an inner node in the place of a leaf is found by neither its Count nor its text.
func TestInnerNodeAsLeaf(t *testing.T) {
	l := []string{"a", "b", "c", "d"}
	all, root := opened(t, l)
	node := Leaf{tag.NodeText(sum(leafText("a")), sum(leafText("b"))), api.Opening{Index: 0, Count: 2, Path: all[0].Open.Path[1:]}}
	checkNone(t, root, all[0], node)
	checkNone(t, root, all[0], node.of(4))
	checkNone(t, root, all[0], node.with(node.Text[1:]))
	checkNone(t, tree.Root([]string{node.Text, "x"}), all[0], node)
}

// P15.2: roots for which neither opening holds, or only one of them does.
func TestOtherRoot(t *testing.T) {
	for _, n := range []int{1, 2, 3, 4, 5, 7, 8, 9, 33} {
		l := leaves(n)
		all, root := opened(t, l)
		for i, a := range all {
			changed := slices.Clone(l)
			changed[i] = "other"
			others, otherRoot := opened(t, changed)
			for _, r := range []api.Hash{root, otherRoot, {}, tag.RootSum(uint64(n), api.Hash{}), tree.Top(tree.Leaves(l)), tree.Root(l[1:]), tree.Root(append(slices.Clone(l), "x"))} {
				checkNone(t, r, a, others[i])
				checkNone(t, r, a, a)
				checkNone(t, r, a, a.with("other"))
			}
			for bit := range 256 {
				r := root
				r[bit/8] ^= 1 << (bit % 8)
				checkNone(t, r, a, others[i])
			}
		}
	}
}

// P15.2: an Index that was changed, with the leaf of its own place or of that one, or another one.
func TestOtherIndex(t *testing.T) {
	for _, n := range edges() {
		l := leaves(n)
		all, root := opened(t, l)
		for _, i := range []int{0, n / 2, n - 1} {
			for _, index := range []int{-1, 0, 1, i - 1, i + 1, n / 3, n - 1, n, n + 1, i + 1<<32, math.MinInt, math.MaxInt} {
				for _, s := range []string{l[i], l[0], l[n-1], "other"} {
					checkNone(t, root, all[i], all[i].at(index).with(s))
					checkNone(t, root, all[i].at(index), all[i].at(index).with(s))
				}
			}
		}
	}
}

// P15.2: a Count that was changed, also where the path of another one has the same sides.
func TestOtherCount(t *testing.T) {
	for _, n := range edges() {
		all, root := opened(t, leaves(n))
		for _, i := range []int{0, n / 2, n - 1} {
			for _, count := range []int{-1, 0, 1, n - 1, n + 1, n + 2, 2 * n, n + 1<<32, api.MaxLeaves, api.MaxLeaves + 1, math.MinInt, math.MaxInt} {
				checkNone(t, root, all[i], all[i].of(count))
				checkNone(t, root, all[i], all[i].of(count).with("other"))
				checkNone(t, root, all[i].of(count), all[i].of(count).with("other"))
			}
		}
	}
	// Leaf 0 of 3 and of 4 goes up two left sides, with one top, so that only the texts of the roots differ.
	a, b := fitting("a", 0, 3), fitting("a", 0, 4)
	checkUnlike(t, texts(a), texts(b), wantTexts(a)[0], wantTexts(b)[0], true)
	for _, l := range []Leaf{a, b} {
		checkNone(t, sum(wantTexts(l)[0]), a, b)
		checkNone(t, sum(wantTexts(l)[0]), a, b.with("b"))
		checkNone(t, sum(wantTexts(l)[0]), a.with("b"), b)
	}
}

// P15.2: a Path of which an element was changed, exchanged with another one, left out or added.
func TestOtherPath(t *testing.T) {
	for _, n := range []int{1, 2, 3, 5, 8, 9, 33, 64} {
		all, root := opened(t, leaves(n))
		for _, l := range []Leaf{all[0], all[n/2], all[n-1]} {
			path := l.Open.Path
			others := [][]api.Hash{nil, {}, {{}}, slices.Insert(slices.Clone(path), 0, api.Hash{}), append(slices.Clone(path), root), hashes(64), hashes(len(path))}
			for k := range path {
				changed, swapped := slices.Clone(path), slices.Clone(path)
				changed[k][k%32] ^= 1
				swapped[0], swapped[k] = swapped[k], swapped[0]
				others = append(others, changed, swapped, slices.Delete(slices.Clone(path), k, k+1))
			}
			for _, other := range others {
				checkNone(t, root, l, l.by(other...))
				checkNone(t, root, l, l.by(other...).with("other"))
				checkNone(t, root, l.by(other...), l.by(other...).with("other"))
			}
		}
	}
}

// P15.2: openings that are not valid, beside one that holds and beside each other.
func TestNotValid(t *testing.T) {
	invalid := []Leaf{
		{}, {Text: "a"}, {Text: "b"}, Leaf{}.by(api.Hash{}), Leaf{}.by(hashes(20)...), Leaf{Text: "a"}.by(hashes(1000)...),
		fitting("a", 0, api.MaxLeaves+1), fitting("a", 0, 2*api.MaxLeaves), fitting("a", 0, 1).of(0), fitting("b", 0, 1).at(1), fitting("b", 0, 1).at(-1),
		fitting("b", 0, 1).by(api.Hash{}), fitting("b", 0, 2).by(), fitting("b", 0, 2).by(hashes(2)...), fitting("b", 0, api.MaxLeaves).by(hashes(19)...),
	}
	for _, index := range []int{math.MinInt, -1, 0, 1, math.MaxInt} {
		for _, count := range []int{math.MinInt, -1, 0, math.MaxInt} {
			invalid = append(invalid, Leaf{Text: "c"}.at(index).of(count))
		}
	}
	valid := []Leaf{fitting("a", 0, 1), fitting("d", 0, 2), fitting("", 1, 2), fitting("e", 5, 9), fitting("f", api.MaxLeaves-1, api.MaxLeaves)}
	roots := []api.Hash{{}, tag.RootSum(0, api.Hash{}), tree.Root(nil)}
	for _, l := range valid {
		roots = append(roots, sum(wantTexts(l)[0]))
	}
	for _, root := range roots {
		for i, a := range invalid {
			for _, b := range invalid[i:] {
				checkNone(t, root, a, b)
			}
			for _, b := range valid {
				checkNone(t, root, a, b)
				checkNone(t, root, a.at(b.Open.Index), b)
			}
		}
		for i, a := range valid {
			for _, b := range valid[i:] {
				checkNone(t, root, a, b)
			}
		}
	}
}

// P15.2: no opening that is passed in is changed, nor what lies behind the end of its path.
func TestOpeningsStay(t *testing.T) {
	for n := 1; n < 20; n++ {
		l := leaves(n)
		all, root := opened(t, l)
		for i, x := range all {
			path := append(slices.Clone(x.Open.Path), hashes(3)...)
			want := slices.Clone(path)
			a, b := x, x
			a.Open.Path, b.Open.Path = path[:len(path)-3], path[:len(path)-3]
			for _, s := range []string{l[i], "other"} {
				Find(root, a, b.with(s))
				Find(root, a.with(s), b)
				texts(a.with(s))
			}
			if !slices.Equal(path, want) || a.Open.Index != i || a.Open.Count != n {
				t.Errorf("the opening of %s was changed", told(x))
			}
		}
	}
}

// anyLeaf returns a leaf, which holds for the root or in which something was changed.
func anyLeaf(r *rand.Rand, all []Leaf) Leaf {
	l := all[r.Intn(len(all))]
	switch r.Intn(6) {
	case 0:
		l = l.with(strconv.Itoa(r.Intn(10)))
	case 1:
		l = l.at(r.Intn(len(all)))
	case 2:
		l = l.of(len(all) + r.Intn(5) - 2)
	case 3:
		l = l.by(all[r.Intn(len(all))].Open.Path...)
	}
	return l
}

// P15.2 and P15.3: any two leaves of a list, in which anything may have been changed: nobody knows a pair of different texts with one hash, so that nothing is found.
func TestAnyLeaves(t *testing.T) {
	r := rand.New(rand.NewSource(16))
	for range 300 {
		n := 1 + r.Intn(20)
		l := leaves(n)
		if r.Intn(2) == 0 {
			l = slices.Repeat([]string{"1"}, n)
		}
		all, root := opened(t, l)
		for range 20 {
			checkNone(t, root, anyLeaf(r, all), anyLeaf(r, all))
		}
	}
}

// P15.1 for whatever texts, and P15.2 and P15.3 for whatever openings and lists.
func FuzzClash(f *testing.F) {
	f.Add("", "", 0, 1, 0)
	f.Add("a,b,c", "a", 2, 3, 1)
	f.Add(",,,,", "\x00", -1, 0, 2)
	f.Add("\x00,\x01", "x", math.MaxInt, math.MinInt, 21)
	f.Add("é", "é", api.MaxLeaves-1, api.MaxLeaves, 20)
	f.Fuzz(func(t *testing.T, s, leaf string, index, count, steps int) {
		checkIs(t, s, leaf, s != leaf && sum(s) == sum(leaf))
		all, root := opened(t, strings.Split(s, ","))
		other := Leaf{Text: leaf}.at(index).of(count).by(hashes(max(0, min(steps, 100)))...)
		for i, l := range all {
			checkTexts(t, l)
			checkNone(t, root, l, l.with(leaf))
			checkNone(t, root, l, other)
			checkNone(t, root, l, other.at(i))
			checkNone(t, root, l, all[0])
		}
	})
}
