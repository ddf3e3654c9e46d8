package multi

import (
	"bytes"
	"cmp"
	"crypto/sha256"
	"encoding/binary"
	"math"
	"math/rand"
	"slices"
	"strconv"
	"strings"
	"testing"

	"milepost/api"
	"milepost/hold"
	"milepost/open"
	"milepost/tag"
	"milepost/tree"
)

// sum returns the library's hash of a tag byte and parts.
func sum(tag byte, parts ...[]byte) api.Hash {
	return sha256.Sum256(append([]byte{tag}, bytes.Join(parts, nil)...))
}

// leafOf returns the hash of a leaf, by the library.
func leafOf(s string) api.Hash { return sum(0, []byte(s)) }

// node returns the hash of an inner node, by the library.
func node(left, right api.Hash) api.Hash { return sum(1, left[:], right[:]) }

// rooted returns the hash of a root, by the library.
func rooted(n int, top api.Hash) api.Hash {
	return sum(2, binary.BigEndian.AppendUint64(nil, uint64(n)), top[:])
}

// A spot is a node of a tree that is built from the bottom up, in rounds: neighbours are joined, and one without a neighbour waits for the next round.
type spot struct{ round, at int }

// lengths returns how many nodes each round of a tree of n leaves has.
func lengths(n int) []int {
	out := []int{n}
	for n > 1 {
		n = n/2 + n%2
		out = append(out, n)
	}
	return out
}

// spots returns the nodes whose tops are in Path, from the left: those that are not above a place, but have a neighbour that is.
func spots(n int, places []int) []spot {
	above := map[spot]bool{}
	for _, p := range places {
		for k := range lengths(n) {
			above[spot{k, p >> k}] = true
		}
	}
	var out []spot
	for k, length := range lengths(n) {
		for _, p := range places {
			s := spot{k, p>>k ^ 1}
			if s.at < length && !above[s] {
				above[s] = true
				out = append(out, s)
			}
		}
	}
	slices.SortFunc(out, func(a, b spot) int { return cmp.Compare(a.at<<a.round, b.at<<b.round) })
	return out
}

// rises tells whether places may be opened of n leaves.
func rises(n int, places []int) bool {
	for i, p := range places {
		if p < 0 || p >= n || slices.Contains(places[:i], p) || !slices.IsSorted(places) {
			return false
		}
	}
	return len(places) != 0
}

// wantNeed returns what Need should.
func wantNeed(n int, places []int) int {
	if !rises(n, places) {
		return -1
	}
	return len(spots(n, places))
}

// grown returns the hashes of all nodes of a tree that some of its nodes determine, and the hash of the last one.
func grown(n int, known map[spot]api.Hash) (map[spot]api.Hash, api.Hash) {
	all := lengths(n)
	for k, length := range all[:len(all)-1] {
		for at := 0; at < length; at += 2 {
			a, has := known[spot{k, at}]
			b, both := known[spot{k, at + 1}]
			if has && both {
				known[spot{k + 1, at / 2}] = node(a, b)
			} else if has && at+1 == length {
				known[spot{k + 1, at / 2}] = a
			}
		}
	}
	return known, known[spot{len(all) - 1, 0}]
}

// nodes returns the hash of every node of the tree of a list.
func nodes(l []string) (map[spot]api.Hash, api.Hash) {
	known := map[spot]api.Hash{}
	for i, s := range l {
		known[spot{0, i}] = leafOf(s)
	}
	return grown(len(l), known)
}

// told returns the hash of every node that an opening and its leaves determine.
func told(leaves []string, m Many) (map[spot]api.Hash, api.Hash) {
	known := map[spot]api.Hash{}
	for i, s := range spots(m.Count, m.Places) {
		known[s] = m.Path[i]
	}
	for i, p := range m.Places {
		known[spot{0, p}] = leafOf(leaves[i])
	}
	return grown(m.Count, known)
}

// wantOne returns the opening of a leaf: its neighbour of each round in which it has one.
func wantOne(n int, known map[spot]api.Hash, i int) api.Opening {
	o := api.Opening{Index: i, Count: n}
	for k, length := range lengths(n) {
		if at := i>>k ^ 1; at < length {
			o.Path = append(o.Path, known[spot{k, at}])
		}
	}
	return o
}

// wantMany returns the opening of places that exist of a list.
func wantMany(l []string, places []int) Many {
	known, _ := nodes(l)
	m := Many{Count: len(l), Places: places}
	for _, s := range spots(len(l), places) {
		m.Path = append(m.Path, known[s])
	}
	return m
}

// wantMay returns what May should.
func wantMay(leaves int, m Many) api.Errno {
	switch {
	case m.Count < 1 || m.Count > 1<<20 || !rises(m.Count, m.Places):
		return api.ErrRange
	case leaves != len(m.Places) || len(m.Path) != len(spots(m.Count, m.Places)):
		return api.ErrForm
	}
	return api.OK
}

// texts returns n different texts, the first of which is empty.
func texts(n int) []string {
	out := make([]string, n)
	for i := range out {
		out[i] = strings.Repeat("x", i%3) + strconv.Itoa(i)
	}
	if n > 0 {
		out[0] = ""
	}
	return out
}

// hashes returns n different hashes.
func hashes(n int) []api.Hash {
	out := make([]api.Hash, n)
	for i := range out {
		out[i] = sum(9, []byte(strconv.Itoa(i)))
	}
	return out
}

// upTo returns all places below n.
func upTo(n int) []int {
	var out []int
	for i := range n {
		out = append(out, i)
	}
	return out
}

// chosen returns the places whose bits are set.
func chosen(bits int) []int {
	var out []int
	for i := range 62 {
		if bits>>i&1 == 1 {
			out = append(out, i)
		}
	}
	return out
}

// at returns the elements at some places.
func at(l []string, places []int) []string {
	var out []string
	for _, p := range places {
		out = append(out, l[p])
	}
	return out
}

// edges returns the numbers up to 17, and some powers of two with the numbers next to them.
func edges() []int {
	return append(upTo(18)[1:], 31, 32, 33, 63, 64, 65, 127, 128, 129, 255, 256, 257)
}

// somePlaces returns, of n leaves, places of every kind: each alone, all, all but one, neighbours, and those at a distance.
func somePlaces(n int) [][]int {
	out := [][]int{upTo(n)}
	for i := range n {
		out = append(out, []int{i})
		if n > 1 {
			out = append(out, slices.Delete(upTo(n), i, i+1))
		}
		if i > 0 {
			out = append(out, []int{i - 1, i}, []int{0, i}, upTo(n)[i:], upTo(n)[:i])
		}
		if i > 1 {
			out = append(out, []int{0, i / 2, i})
		}
	}
	return out
}

// wrongPlaces returns lists of places of which none may be opened of n leaves.
func wrongPlaces(n int) [][]int {
	out := [][]int{nil, {}, {-1}, {n}, {n + 1}, {math.MinInt}, {math.MaxInt}, {-1, 0}, {0, n}, {0, 0}, {n - 1, n - 1}, {n - 1, n}, {1, 0}, {0, -1}, {0, math.MaxInt}, {math.MinInt, 0},
		{0, 1, 1}, {0, 0, 1}, {0, 2, 1}, {1, 0, 2}, {2, 1, 0}, {n - 1, 0}, {-1, -1}, {n, n}, {0 + 1<<32}, {-1 << 32}, {n, n + 1}, {-2, -1}}
	if n > 0 {
		out = append(out, append(upTo(n), n), append(upTo(n), n-1), append([]int{0}, upTo(n)...), append([]int{-1}, upTo(n)...))
	}
	return out
}

// with returns a valid opening of arbitrary hashes.
func with(n int, places ...int) Many {
	return Many{Count: n, Places: places, Path: hashes(wantNeed(n, places))}
}

// same tells whether all fields of two openings are equal.
func same(a, b Many) bool {
	return a.Count == b.Count && slices.Equal(a.Places, b.Places) && slices.Equal(a.Path, b.Path)
}

// brief describes an opening without its hashes.
func brief(m Many) string {
	return "count " + strconv.Itoa(m.Count) + ", " + strconv.Itoa(len(m.Path)) + " hashes, " + listed(m.Places)
}

// listed describes some places.
func listed(places []int) string {
	s := strconv.Itoa(len(places)) + " places:"
	for i, p := range places {
		if i == 40 {
			return s + " and so on"
		}
		s += " " + strconv.Itoa(p)
	}
	return s
}

// checkNeed compares Need with what is wanted.
func checkNeed(t *testing.T, n int, places []int, want int) {
	t.Helper()
	if got := Need(n, places); got != want {
		t.Errorf("Need(%d) of %s = %d, want %d", n, listed(places), got, want)
	}
}

// checkOpen compares all that Open returns with the opening that is wanted.
func checkOpen(t *testing.T, l []string, places []int, want Many) {
	t.Helper()
	if got, err := Open(l, places); !same(got, want) || err != api.OK {
		t.Errorf("Open of %d texts: %s, %x, %v, want %s, %x", len(l), brief(got), got.Path, err, brief(want), want.Path)
	}
}

// checkNotOpened asks for an error of Open, and for nothing beside it.
func checkNotOpened(t *testing.T, l []string, places []int, want api.Errno) {
	t.Helper()
	got, err := Open(l, places)
	if err != want || got.Count != 0 || len(got.Places) != 0 || len(got.Path) != 0 {
		t.Errorf("Open of %d texts, %s: %s, %v, want nothing and %v", len(l), listed(places), brief(got), err, want)
	}
}

// checkHolds compares Check with what is wanted.
func checkHolds(t *testing.T, root api.Hash, leaves []string, m Many, want bool) {
	t.Helper()
	if got := Check(root, leaves, m); got != want {
		t.Errorf("Check(%x) of %d leaves, %s: %v", root, len(leaves), brief(m), got)
	}
}

// checkNoOne asks for no opening, and for nothing beside the false.
func checkNoOne(t *testing.T, leaves []string, m Many, i int) {
	t.Helper()
	if o, is := One(leaves, m, i); is || !open.None(o) {
		t.Errorf("One(%d) of %d leaves, %s: %v, %v", i, len(leaves), brief(m), o, is)
	}
}

// checkOnes compares the opening of each leaf with what is wanted, asks whether it holds for a root, and that there are no others.
func checkOnes(t *testing.T, root api.Hash, leaves []string, m Many, known map[spot]api.Hash) {
	t.Helper()
	for i, p := range m.Places {
		want := wantOne(m.Count, known, p)
		o, is := One(leaves, m, i)
		if !is || !open.Same(o, want) {
			t.Errorf("One(%d) of %s: %v, %v, want %v", i, brief(m), o, is, want)
		}
		if !hold.Check(root, leaves[i], o) {
			t.Errorf("One(%d) of %s does not hold", i, brief(m))
		}
	}
	for _, i := range []int{-1, len(m.Places), len(m.Places) + 1, m.Count + len(m.Places), math.MinInt, math.MaxInt, 1 << 32, -1 << 32} {
		checkNoOne(t, leaves, m, i)
	}
}

// checkValid compares all that is returned for a valid opening and its leaves with what is wanted.
func checkValid(t *testing.T, leaves []string, m Many) {
	t.Helper()
	if err := May(len(leaves), m); err != api.OK {
		t.Errorf("May of %s: %v", brief(m), err)
	}
	known, top := told(leaves, m)
	root := rooted(m.Count, top)
	if got, err := Root(leaves, m); got != root || err != api.OK {
		t.Errorf("Root of %s = %x, %v, want %x", brief(m), got, err, root)
	}
	checkHolds(t, root, leaves, m, true)
	checkOnes(t, root, leaves, m, known)
	root[31] ^= 1
	checkHolds(t, root, leaves, m, false)
}

// checkInvalid asks for the error of an opening that is not valid for so many leaves, that nothing else is returned, and that it holds for no root, not even for the zero hash that is returned with the error.
func checkInvalid(t *testing.T, leaves []string, m Many, want api.Errno) {
	t.Helper()
	if got := May(len(leaves), m); got != want {
		t.Errorf("May(%d) of %s: %v, want %v", len(leaves), brief(m), got, want)
	}
	if got, err := Root(leaves, m); got != (api.Hash{}) || err != want {
		t.Errorf("Root of %d leaves, %s: %x, %v, want no root and %v", len(leaves), brief(m), got, err, want)
	}
	for _, root := range []api.Hash{{}, rooted(m.Count, api.Hash{}), rooted(m.Count, leafOf("a")), rooted(0, api.Hash{})} {
		checkHolds(t, root, leaves, m, false)
	}
	for _, i := range []int{-1, 0, 1, len(leaves) - 1, len(m.Places) - 1, len(m.Places)} {
		checkNoOne(t, leaves, m, i)
	}
}

// checkAny compares all that is returned for any opening and leaves with what is wanted.
func checkAny(t *testing.T, leaves []string, m Many) {
	t.Helper()
	if want := wantMay(len(leaves), m); want != api.OK {
		checkInvalid(t, leaves, m, want)
		return
	}
	checkValid(t, leaves, m)
}

// P16.1: the chapter's examples.
func TestExamples(t *testing.T) {
	checkNeed(t, 4, []int{0, 1}, 1)
	checkNeed(t, 4, []int{0, 1, 2, 3}, 0)
}

// P16.1: numbers written out, of trees whose shapes can be drawn.
func TestNeedWrittenOut(t *testing.T) {
	for _, c := range []struct {
		n, want int
		places  []int
	}{
		{1, 0, []int{0}},
		{2, 1, []int{0}}, {2, 1, []int{1}}, {2, 0, []int{0, 1}},
		{3, 2, []int{0}}, {3, 1, []int{2}}, {3, 1, []int{0, 1}}, {3, 1, []int{0, 2}}, {3, 0, []int{0, 1, 2}},
		{4, 2, []int{0, 2}}, {4, 2, []int{1, 2}}, {4, 1, []int{2, 3}}, {4, 1, []int{0, 1, 3}},
		{5, 3, []int{0}}, {5, 1, []int{4}}, {5, 2, []int{1, 4}}, {5, 2, []int{0, 1}}, {5, 1, []int{0, 1, 2, 3}},
		{7, 2, []int{6}}, {7, 3, []int{4}}, {7, 1, []int{4, 5, 6}}, {7, 3, []int{0, 6}}, {7, 4, []int{3, 4}},
		{8, 3, []int{7}}, {8, 4, []int{0, 4}}, {8, 4, []int{0, 2, 4, 6}}, {8, 1, []int{4, 5, 6, 7}},
		{9, 4, []int{0}}, {9, 1, []int{8}}, {9, 3, []int{7, 8}},
	} {
		checkNeed(t, c.n, c.places, c.want)
	}
}

// P16.1: all lists of increasing places of each number of leaves up to 10.
func TestNeedOfAllChoices(t *testing.T) {
	for n := 1; n <= 10; n++ {
		for bits := 1; bits < 1<<n; bits++ {
			places := chosen(bits)
			checkNeed(t, n, places, wantNeed(n, places))
		}
		checkNeed(t, n, upTo(n), 0)
	}
}

// P16.1: places of every kind, of the powers of two and the numbers next to them; a single place needs as many hashes as its path up has steps.
func TestNeedOfSomePlaces(t *testing.T) {
	for _, n := range edges() {
		l := texts(n)
		for _, places := range somePlaces(n) {
			checkNeed(t, n, places, wantNeed(n, places))
		}
		for i := range n {
			o, _ := open.Open(l, i)
			checkNeed(t, n, []int{i}, len(o.Path))
		}
	}
}

// P16.1: places that are none, repeat, fall, or do not exist.
func TestNeedOfWrongPlaces(t *testing.T) {
	for _, n := range append(edges(), api.MaxLeaves, 1<<40, math.MaxInt-1) {
		for _, places := range wrongPlaces(min(n, 300)) {
			checkNeed(t, n, places, wantNeed(n, places))
		}
		for _, places := range [][]int{nil, {}, {-1}, {n}, {n + 1}, {0, n}, {0, 0}, {n - 1, n - 1}, {n - 1, n}, {-1, 0}, {n - 1, n - 2}, {n, 0}, {math.MinInt}, {math.MinInt, n - 1}} {
			checkNeed(t, n, places, -1)
		}
	}
	for _, n := range []int{2, 3, 4, 5, 8, 9} {
		checkNeed(t, n, []int{1, 0}, -1)
		checkNeed(t, n, []int{0, 1, 1}, -1)
		checkNeed(t, n, []int{0, 1, 0}, -1)
		checkNeed(t, n, []int{0, 1, -1}, -1)
		checkNeed(t, n, []int{0, 1, n}, -1)
	}
}

// P16.1: no leaves, or a number of leaves below zero: no place exists.
func TestNeedOfNoLeaves(t *testing.T) {
	for _, n := range []int{0, -1, -2, -1 << 32, math.MinInt + 1, math.MinInt} {
		for _, places := range [][]int{nil, {}, {0}, {-1}, {n}, {n - 1}, {n + 1}, {0, 1}, {1}, {math.MinInt}, {math.MaxInt}, {n, 0}} {
			checkNeed(t, n, places, -1)
		}
	}
}

// P16.1: there is no limit to the number of leaves.
func TestNeedOfManyLeaves(t *testing.T) {
	for _, n := range []int{api.MaxLeaves - 1, api.MaxLeaves, api.MaxLeaves + 1, 1<<32 - 1, 1 << 32, 1<<32 + 1, 1<<62 - 1, 1 << 62, 1<<62 + 1, math.MaxInt - 1, math.MaxInt} {
		ends := []int{0, 1, 2, n / 3, n/2 - 1, n / 2, n/2 + 1, n - 3, n - 2, n - 1}
		for i, p := range ends {
			checkNeed(t, n, []int{p}, wantNeed(n, []int{p}))
			for k, q := range ends[:i] {
				checkNeed(t, n, []int{q, p}, wantNeed(n, []int{q, p}))
				checkNeed(t, n, ends[k:i+1], wantNeed(n, ends[k:i+1]))
				checkNeed(t, n, []int{p, q}, -1)
			}
		}
	}
	checkNeed(t, 1<<62, []int{0}, 62)
	checkNeed(t, math.MaxInt, []int{0}, 63)
	checkNeed(t, 1<<62+1, []int{1 << 62}, 1)
}

// P16.1: every place of a tree as large as may be, and every second one.
func TestNeedOfMostPlaces(t *testing.T) {
	n := api.MaxLeaves
	all := upTo(n)
	checkNeed(t, n, all, 0)
	checkNeed(t, n, all[1:], 1)
	checkNeed(t, n, all[:n/2], 1)
	checkNeed(t, n+1, all, 1)
	checkNeed(t, n-1, all, -1)
	checkNeed(t, n, append(slices.Clone(all), n), -1)
	checkNeed(t, n, append(slices.Clone(all), n-1), -1)
	var odd []int
	for i := range n / 2 {
		odd = append(odd, 2*i+1)
	}
	checkNeed(t, n, odd, n/2)
}

// P16.2: openings written out, of lists of some letters.
func TestOpenWrittenOut(t *testing.T) {
	l := []string{"a", "b", "c", "d", "e"}
	a, b, c, d, e := leafOf("a"), leafOf("b"), leafOf("c"), leafOf("d"), leafOf("e")
	for _, w := range []struct {
		n      int
		places []int
		path   []api.Hash
	}{
		{1, []int{0}, nil},
		{2, []int{0}, []api.Hash{b}},
		{2, []int{1}, []api.Hash{a}},
		{2, []int{0, 1}, nil},
		{3, []int{0}, []api.Hash{b, c}},
		{3, []int{1}, []api.Hash{a, c}},
		{3, []int{2}, []api.Hash{node(a, b)}},
		{3, []int{0, 2}, []api.Hash{b}},
		{4, []int{2}, []api.Hash{node(a, b), d}},
		{4, []int{3}, []api.Hash{node(a, b), c}},
		{4, []int{1, 2}, []api.Hash{a, d}},
		{4, []int{0, 1}, []api.Hash{node(c, d)}},
		{5, []int{1, 4}, []api.Hash{a, node(c, d)}},
		{5, []int{0}, []api.Hash{b, node(c, d), e}},
		{5, []int{3}, []api.Hash{node(a, b), c, e}},
		{5, []int{4}, []api.Hash{node(node(a, b), node(c, d))}},
		{5, []int{0, 1, 3, 4}, []api.Hash{c}},
		{5, []int{0, 1, 2, 3}, []api.Hash{e}},
	} {
		checkOpen(t, l[:w.n], w.places, Many{Count: w.n, Places: w.places, Path: w.path})
	}
}

// P16.2 to P16.5: all lists of increasing places of each number of leaves up to 8.
func TestAllChoices(t *testing.T) {
	for n := 1; n <= 8; n++ {
		l := texts(n)
		root := tree.Root(l)
		for bits := 1; bits < 1<<n; bits++ {
			places := chosen(bits)
			want := wantMany(l, places)
			checkOpen(t, l, places, want)
			checkValid(t, at(l, places), want)
			checkHolds(t, root, at(l, places), want, true)
		}
	}
}

// P16.2 to P16.5: places of every kind of the powers of two up to 32, and of the numbers next to them.
func TestSomePlaces(t *testing.T) {
	for n := 1; n <= 33; n++ {
		l := texts(n)
		root := tree.Root(l)
		for _, places := range somePlaces(n) {
			want := wantMany(l, places)
			checkOpen(t, l, places, want)
			checkValid(t, at(l, places), want)
			checkHolds(t, root, at(l, places), want, true)
		}
	}
}

// P16.2, P16.4 and P16.5: the first, the last, both, and all leaves of longer lists; the opening of one leaf is that of package open, up to the order of its path.
func TestLongerLists(t *testing.T) {
	for _, n := range edges() {
		l := texts(n)
		root := tree.Root(l)
		for _, places := range [][]int{{0}, {n - 1}, {n / 2}, upTo(n), upTo(n)[n/2:], upTo(n)[:n/2+1]} {
			m, err := Open(l, places)
			if !same(m, wantMany(l, places)) || err != api.OK {
				t.Errorf("Open of %d texts: %s, %v", n, brief(m), err)
			}
			checkHolds(t, root, at(l, places), m, true)
			for i, p := range places {
				want, _ := open.Open(l, p)
				if o, is := One(at(l, places), m, i); !is || !open.Same(o, want) {
					t.Errorf("One(%d) of %s: %v, %v, want %v", i, brief(m), o, is, want)
				}
			}
		}
	}
}

// P16.2 and P16.5: equal, empty, long and contrived leaves.
func TestSomeLists(t *testing.T) {
	a, b := leafOf("a"), leafOf("b")
	long := strings.Repeat("0123456789", 10000)
	for _, l := range [][]string{
		{""}, {"", ""}, {"a", "a"}, {"", "", ""}, {"a", "a", "a", "b"}, {"a", "b", "a", "b", "a"}, {"\x00a", "\x00b", "\x01"}, {"é", "\xc3", "\xa9"},
		{string(a[:]) + string(b[:]), "c"}, {"\x01" + string(a[:]) + string(b[:]), "c"}, {long, ""}, {"", long}, {long, long, long}, {"a", long[1:], "b", long[:1], "c"},
	} {
		for bits := 1; bits < 1<<len(l); bits++ {
			places := chosen(bits)
			m := wantMany(l, places)
			checkOpen(t, l, places, m)
			checkValid(t, at(l, places), m)
			checkHolds(t, tree.Root(l), at(l, places), m, true)
		}
	}
}

// P16.2: ErrRange for places that may not be opened, of lists of every length, also of none.
func TestOpenOfWrongPlaces(t *testing.T) {
	for _, n := range append(edges(), 0) {
		for _, places := range wrongPlaces(n) {
			if !rises(n, places) {
				checkNotOpened(t, texts(n), places, api.ErrRange)
			}
		}
	}
	for _, l := range [][]string{nil, {}, texts(3)[:0]} {
		for _, places := range [][]int{nil, {}, {0}, {-1}, {0, 1}, {math.MaxInt}} {
			checkNotOpened(t, l, places, api.ErrRange)
		}
	}
}

// P16.2, P16.4 and P16.5: a list as long as may be is opened; of a longer one the error is ErrBig, whatever the places are.
func TestOpenOfMostLeaves(t *testing.T) {
	n := api.MaxLeaves
	l := texts(n + 1)
	places := []int{0, n/2 + 1, n - 1}
	m, err := Open(l[:n], places)
	if err != api.OK || m.Count != n || !slices.Equal(m.Places, places) || len(m.Path) != wantNeed(n, places) {
		t.Fatalf("Open of %d texts: %s, %v", n, brief(m), err)
	}
	root, err := Root(at(l, places), m)
	if root != tree.Root(l[:n]) || err != api.OK {
		t.Errorf("Root of %s = %x, %v", brief(m), root, err)
	}
	all, err := Open(l[:n], upTo(n))
	if !same(all, Many{Count: n, Places: upTo(n)}) || err != api.OK {
		t.Fatalf("Open of %d texts: %s, %v", n, brief(all), err)
	}
	o, is := One(l[:n], all, n-1)
	if !is || o.Index != n-1 || !hold.Check(root, l[n-1], o) {
		t.Errorf("One of %s: %v, %v", brief(all), o, is)
	}
	checkNotOpened(t, l[:n], []int{n}, api.ErrRange)
	checkNotOpened(t, l[:n], nil, api.ErrRange)
	for _, places := range [][]int{{0}, {n}, {0, n}, nil, {-1}, {n + 1}, {1, 0}, {0, 0}} {
		checkNotOpened(t, l, places, api.ErrBig)
	}
}

// P16.3: every number of leaves and of hashes, for each choice of places of small trees.
func TestOtherNumbers(t *testing.T) {
	for n := 1; n <= 6; n++ {
		for bits := 1; bits < 1<<n; bits++ {
			m := with(n, chosen(bits)...)
			need := len(m.Path)
			for leaves := range n + 3 {
				for steps := range need + 4 {
					m.Path = hashes(steps)
					checkAny(t, texts(leaves), m)
				}
			}
			m.Path = hashes(need)
			for _, leaves := range []int{-1, -len(m.Places), math.MinInt, math.MaxInt, len(m.Places) + 1<<32} {
				if got := May(leaves, m); got != api.ErrForm {
					t.Errorf("May(%d) of %s: %v", leaves, brief(m), got)
				}
			}
		}
	}
}

// P16.3: ErrRange unless Count is between 1 and MaxLeaves.
func TestCount(t *testing.T) {
	for _, n := range []int{0, -1, -2, -1 << 20, 1<<20 + 1, 1<<20 + 2, 1 << 21, 1 << 32, 1<<32 + 1, 1<<63 - 1, -1 << 63} {
		for _, places := range [][]int{nil, {0}, {0, 1}, {n - 1}, {n}, {-1}, {0, 1 << 20}} {
			for _, steps := range []int{0, 1, 20, 21, 22, max(0, wantNeed(n, places))} {
				for leaves := range 3 {
					checkInvalid(t, texts(leaves), Many{Count: n, Places: places, Path: hashes(steps)}, api.ErrRange)
				}
			}
		}
	}
	for _, n := range []int{1, 2, 1<<19 - 1, 1 << 19, 1<<19 + 1, 1<<20 - 1, 1 << 20} {
		for _, places := range [][]int{{0}, {n - 1}, {n / 2}, {0, n}, {n - 1, n}, {n}, {}} {
			m := Many{Count: n, Places: places, Path: hashes(max(0, wantNeed(n, places)))}
			want := api.ErrRange
			if rises(n, places) {
				want = api.OK
			}
			if got := May(len(places), m); got != want {
				t.Errorf("May of %s: %v, want %v", brief(m), got, want)
			}
		}
	}
}

// P16.3: ErrRange for places that may not be opened, also where the leaves or hashes are not as many as they should be.
func TestPlaces(t *testing.T) {
	for _, n := range []int{1, 2, 3, 4, 5, 7, 8, 9, 16, 17} {
		for _, places := range wrongPlaces(n) {
			for _, steps := range []int{0, 1, 2, 3, 4, 5} {
				for _, leaves := range []int{0, 1, 2, len(places), len(places) + 1} {
					checkAny(t, texts(leaves), Many{Count: n, Places: places, Path: hashes(steps)})
				}
			}
		}
		for _, places := range [][]int{nil, {}, {-1}, {n}, {0, 0}, {0, n}, {-1, 0}} {
			checkInvalid(t, texts(len(places)), Many{Count: n, Places: places}, api.ErrRange)
			checkInvalid(t, texts(n+2), Many{Count: n, Places: places, Path: hashes(9)}, api.ErrRange)
		}
	}
}

// P16.3 to P16.5: openings of arbitrary hashes, of which no list is known, determine a root like any other, for which each leaf's opening holds; also of the greatest trees.
func TestArbitraryPaths(t *testing.T) {
	for n := 1; n <= 7; n++ {
		for bits := 1; bits < 1<<n; bits++ {
			m := with(n, chosen(bits)...)
			checkValid(t, texts(len(m.Places)), m)
			checkValid(t, slices.Repeat([]string{"a"}, len(m.Places)), m)
			for _, h := range []api.Hash{{}, {31: 1}, leafOf("a")} {
				m.Path = slices.Repeat([]api.Hash{h}, len(m.Path))
				checkValid(t, texts(len(m.Places)), m)
			}
		}
	}
	for _, n := range []int{31, 32, 33, 127, 128, 129} {
		for _, places := range [][]int{{0}, {n - 1}, {0, n - 1}, {n / 2}, {n/2 - 1, n / 2, n/2 + 1}, {1, 2, 3, 5, 8, 13, 21}, upTo(n), upTo(n)[1:]} {
			checkValid(t, texts(len(places)), with(n, places...))
		}
	}
}

// P16.3 and P16.5: what is determined of the greatest trees: the opening of each leaf holds for the root that Root returns.
func TestGreatTrees(t *testing.T) {
	for _, n := range []int{1<<19 - 1, 1 << 19, 1<<19 + 1, api.MaxLeaves - 1, api.MaxLeaves} {
		for _, places := range [][]int{{0}, {n - 1}, {0, n - 1}, {1, n / 3, n/2 - 1, n / 2, n/2 + 1, n - 2}} {
			m, leaves := with(n, places...), texts(len(places))
			root, err := Root(leaves, m)
			if err != api.OK {
				t.Errorf("Root of %s: %v", brief(m), err)
			}
			for i := range places {
				o, is := One(leaves, m, i)
				if !is || o.Index != places[i] || o.Count != n || !hold.Check(root, leaves[i], o) {
					t.Errorf("One(%d) of %s: %v, %v", i, brief(m), o, is)
				}
			}
		}
	}
	// Everything is to the right of the first leaf, the lowest step first, and to the left of the last one, the lowest step last.
	n := 1 << 20
	m := with(n, 0)
	if o, is := One([]string{"a"}, m, 0); !is || !slices.Equal(o.Path, m.Path) {
		t.Errorf("the path of leaf 0 is %x", o.Path)
	}
	m = with(n, n-1)
	slices.Reverse(m.Path)
	if o, is := One([]string{"a"}, with(n, n-1), 0); !is || !slices.Equal(o.Path, m.Path) {
		t.Errorf("the path of leaf %d is %x", n-1, o.Path)
	}
}

// P16.3: an opening holds for its own leaves only, in their order.
func TestOtherLeaves(t *testing.T) {
	for _, n := range []int{1, 2, 3, 4, 5, 8, 9} {
		l := texts(n)
		root := tree.Root(l)
		for _, places := range somePlaces(n) {
			m, _ := Open(l, places)
			leaves := at(l, places)
			checkHolds(t, root, leaves, m, true)
			for i := range leaves {
				for _, s := range append(slices.Clone(l), "other", leaves[i]+"\x00", "\x00"+leaves[i]) {
					other := slices.Clone(leaves)
					other[i] = s
					checkHolds(t, root, other, m, s == leaves[i])
				}
				for k := range i {
					other := slices.Clone(leaves)
					other[i], other[k] = other[k], other[i]
					checkHolds(t, root, other, m, false)
				}
				checkHolds(t, root, slices.Delete(slices.Clone(leaves), i, i+1), m, false)
				checkHolds(t, root, slices.Insert(slices.Clone(leaves), i, leaves[i]), m, false)
			}
			checkHolds(t, root, nil, m, false)
			checkHolds(t, root, append(slices.Clone(leaves), ""), m, false)
		}
	}
}

// P16.3: an opening does not hold with a hash that is changed in any byte, replaced, exchanged, missing or additional.
func TestOtherHashes(t *testing.T) {
	for _, n := range []int{1, 2, 3, 4, 5, 8, 9} {
		l := texts(n)
		root := tree.Root(l)
		for _, places := range somePlaces(n) {
			m, _ := Open(l, places)
			leaves := at(l, places)
			path := m.Path
			for i := range path {
				for k := range len(api.Hash{}) {
					m.Path = slices.Clone(path)
					m.Path[i][k]++
					checkHolds(t, root, leaves, m, false)
				}
				for _, h := range []api.Hash{{}, root, leafOf(leaves[0])} {
					m.Path = slices.Clone(path)
					m.Path[i] = h
					checkHolds(t, root, leaves, m, false)
				}
				for k := range i {
					m.Path = slices.Clone(path)
					m.Path[i], m.Path[k] = m.Path[k], m.Path[i]
					checkHolds(t, root, leaves, m, false)
				}
				m.Path = slices.Delete(slices.Clone(path), i, i+1)
				checkInvalid(t, leaves, m, api.ErrForm)
				checkHolds(t, root, leaves, m, false)
			}
			for i := range len(path) + 1 {
				m.Path = slices.Insert(slices.Clone(path), i, root)
				checkInvalid(t, leaves, m, api.ErrForm)
				checkHolds(t, root, leaves, m, false)
			}
		}
	}
}

// P16.3: an opening of different leaves holds at its own places only, and with its own Count only.
func TestOtherPlaces(t *testing.T) {
	for n := 1; n <= 6; n++ {
		l := texts(n)
		root := tree.Root(l)
		for bits := 1; bits < 1<<n; bits++ {
			places := chosen(bits)
			m, _ := Open(l, places)
			leaves := at(l, places)
			for other := range 1 << (n + 1) {
				m.Places = chosen(other)
				checkHolds(t, root, leaves, m, other == bits)
			}
			m.Places = places
			for count := -2; count < 2*n+5; count++ {
				m.Count = count
				checkHolds(t, root, leaves, m, count == n)
			}
			for _, count := range []int{n + 1<<32, api.MaxLeaves, api.MaxLeaves + 1, math.MinInt, math.MaxInt} {
				m.Count = count
				checkHolds(t, root, leaves, m, false)
			}
		}
	}
}

// P16.3: an opening holds for its own root only: not for one that differs in a bit, nor for that of another number, nor for a hash of the tree.
func TestOtherRoot(t *testing.T) {
	for _, n := range []int{1, 2, 3, 4, 5, 8, 9} {
		l := texts(n)
		known, top := nodes(l)
		root := rooted(n, top)
		for _, places := range [][]int{{0}, {n - 1}, upTo(n), upTo(n)[n/2:]} {
			m, _ := Open(l, places)
			leaves := at(l, places)
			checkHolds(t, root, leaves, m, true)
			for i := range root {
				for bit := range 8 {
					other := root
					other[i] ^= 1 << bit
					checkHolds(t, other, leaves, m, false)
				}
			}
			for _, other := range known {
				checkHolds(t, other, leaves, m, false)
			}
			for _, other := range []api.Hash{{}, rooted(n-1, top), rooted(n+1, top), rooted(0, top), rooted(n, root)} {
				checkHolds(t, other, leaves, m, false)
			}
		}
	}
}

// P16.3: equal leaves and hashes are told apart by their number only: the root of 3 has another number than that of 4, though both tops are one.
func TestRootHasNumber(t *testing.T) {
	m := Many{Count: 3, Places: []int{0, 1}, Path: hashes(1)}
	leaves := []string{"a", "b"}
	top := node(node(leafOf("a"), leafOf("b")), m.Path[0])
	checkHolds(t, rooted(3, top), leaves, m, true)
	checkHolds(t, tag.RootSum(4, top), leaves, m, false)
	m.Count = 4
	checkHolds(t, tag.RootSum(3, top), leaves, m, false)
	checkHolds(t, rooted(4, top), leaves, m, true)
}

// P16.4: openings written out: what is beside a leaf comes from the hashes, from another leaf, or from both.
func TestOneWrittenOut(t *testing.T) {
	a, b, d := leafOf("a"), leafOf("b"), leafOf("d")
	h := hashes(2)
	m := Many{Count: 5, Places: []int{0, 1, 3}, Path: h}
	leaves := []string{"a", "b", "d"}
	for i, want := range []api.Opening{
		{Index: 0, Count: 5, Path: []api.Hash{b, node(h[0], d), h[1]}},
		{Index: 1, Count: 5, Path: []api.Hash{a, node(h[0], d), h[1]}},
		{Index: 3, Count: 5, Path: []api.Hash{h[0], node(a, b), h[1]}},
	} {
		if o, is := One(leaves, m, i); !is || !open.Same(o, want) {
			t.Errorf("One(%d) = %v, %v, want %v", i, o, is, want)
		}
	}
	m = Many{Count: 3, Places: []int{2}, Path: h[:1]}
	if o, is := One([]string{"c"}, m, 0); !is || !open.Same(o, api.Opening{Index: 2, Count: 3, Path: h[:1]}) {
		t.Errorf("One(0) = %v, %v", o, is)
	}
	m = Many{Count: 1, Places: []int{0}}
	if o, is := One([]string{""}, m, 0); !is || !open.Same(o, api.Opening{Count: 1}) {
		t.Errorf("One(0) = %v, %v", o, is)
	}
}

// P16.4: i counts places, not leaves, and there is no opening for the zero value.
func TestNoOne(t *testing.T) {
	m := with(8, 5, 6)
	for _, i := range []int{5, 6, 2, 3, -1, -2, math.MinInt, math.MaxInt} {
		checkNoOne(t, []string{"a", "b"}, m, i)
	}
	for i := -1; i < 3; i++ {
		checkNoOne(t, []string{"a"}, m, i)
		checkNoOne(t, []string{"a", "b", "c"}, m, i)
		checkNoOne(t, nil, m, i)
		checkNoOne(t, nil, Many{}, i)
		checkNoOne(t, []string{"a"}, Many{}, i)
		checkNoOne(t, nil, Many{Count: 1}, i)
		checkNoOne(t, []string{"a"}, Many{Count: 2, Places: []int{0}}, i)
		checkNoOne(t, []string{"a"}, Many{Count: 0, Places: []int{0}}, i)
	}
}

// P16.1 to P16.4: nothing that is passed in is changed, nor what lies behind the end of a list.
func TestArgumentsStay(t *testing.T) {
	for n := 1; n <= 9; n++ {
		for _, places := range append(somePlaces(n), wrongPlaces(n)...) {
			list, hs, ls := append(slices.Clone(places), 3, 2, 1), hashes(12), texts(n+3)
			given, all := slices.Clone(list), slices.Clone(ls)
			m := Many{Count: n, Places: list[:len(places)], Path: hs[:max(0, wantNeed(n, places))]}
			leaves := ls[:min(len(places), n)]
			Need(n, m.Places)
			Open(ls[:n], m.Places)
			May(len(leaves), m)
			Root(leaves, m)
			Check(api.Hash{}, leaves, m)
			for i := range places {
				One(leaves, m, i)
			}
			if !slices.Equal(list, given) || !slices.Equal(ls, all) || !slices.Equal(hs, hashes(12)) || m.Count != n {
				t.Errorf("what was passed in was changed: %s", brief(m))
			}
		}
	}
}

// P16.2 and P16.4: what a caller holds is not changed by later calls, and writing to it changes neither an argument nor a later result.
func TestResultsAreNew(t *testing.T) {
	l, places := texts(7), []int{1, 2, 6}
	want := wantMany(l, slices.Clone(places))
	first, _ := Open(l, places)
	second, _ := Open(l, places)
	clear(first.Path)
	clear(first.Places)
	_ = append(first.Path, hashes(4)...)
	if !same(second, want) || !slices.Equal(places, []int{1, 2, 6}) || !slices.Equal(l, texts(7)) {
		t.Errorf("an opening that was returned became %s, and the places %d", brief(second), places)
	}
	clear(places)
	clear(l)
	if !same(second, want) {
		t.Errorf("an opening that was returned follows its arguments: %s", brief(second))
	}
	leaves := at(texts(7), want.Places)
	one, _ := One(leaves, second, 2)
	other, _ := One(leaves, second, 2)
	clear(one.Path)
	_ = append(one.Path, hashes(4)...)
	known, _ := told(leaves, want)
	if !same(second, want) || !open.Same(other, wantOne(7, known, 6)) {
		t.Errorf("an opening follows another one: %s, %v", brief(second), other)
	}
	clear(second.Path)
	if !open.Same(other, wantOne(7, known, 6)) {
		t.Errorf("an opening follows that of several leaves: %v", other)
	}
}

// anyPlaces returns some increasing places of n leaves.
func anyPlaces(r *rand.Rand, n int) []int {
	var out []int
	for i := range n {
		if r.Intn(n) < 4 || r.Intn(4) == 0 {
			out = append(out, i)
		}
	}
	return out
}

// P16.1 to P16.5: any lists, places, leaves and hashes.
func TestAny(t *testing.T) {
	r := rand.New(rand.NewSource(17))
	for range 2000 {
		n := r.Intn(1 << r.Intn(7))
		l, places := texts(n), anyPlaces(r, n)
		checkNeed(t, n, places, wantNeed(n, places))
		if !rises(n, places) {
			checkNotOpened(t, l, places, api.ErrRange)
			continue
		}
		m := wantMany(l, places)
		checkOpen(t, l, places, m)
		checkHolds(t, tree.Root(l), at(l, places), m, true)
		leaves := at(l, places)
		switch r.Intn(6) {
		case 0:
			m.Path = hashes(r.Intn(9))
		case 1:
			m.Count += r.Intn(5) - 2
		case 2:
			m.Places = anyPlaces(r, n)
		case 3:
			leaves = texts(r.Intn(9))
		case 4:
			m.Places = slices.Clone(m.Places)
			m.Places[r.Intn(len(places))] += r.Intn(5) - 2
		}
		checkAny(t, leaves, m)
	}
}

// numbers returns the numbers of a text, one for each byte, which may be below zero.
func numbers(s string) []int {
	var out []int
	for _, b := range []byte(s) {
		out = append(out, int(int8(b)))
	}
	return out
}

// P16.1 to P16.5, for whatever lists, places, leaves and hashes.
func FuzzMulti(f *testing.F) {
	f.Add("", "\x00", 1, 0)
	f.Add("a,b,c,d,e", "\x01\x04", 5, 2)
	f.Add(",,,,", "\xff\x00", -1, 0)
	f.Add("a,b", "\x00\x00", math.MaxInt, 1)
	f.Add("a,b,c", "\x02\x01", api.MaxLeaves, 20)
	f.Fuzz(func(t *testing.T, s, chosen string, count, steps int) {
		l, places := strings.Split(s, ","), numbers(chosen)
		checkNeed(t, count, places, wantNeed(count, places))
		checkNeed(t, len(l), places, wantNeed(len(l), places))
		if count <= 1000 {
			checkAny(t, l, Many{Count: count, Places: places, Path: hashes(max(0, min(steps, 100)))})
		}
		if !rises(len(l), places) {
			checkNotOpened(t, l, places, api.ErrRange)
			return
		}
		m := wantMany(l, places)
		checkOpen(t, l, places, m)
		checkValid(t, at(l, places), m)
		checkHolds(t, tree.Root(l), at(l, places), m, true)
	})
}
