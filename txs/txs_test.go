package txs

import (
	"bytes"
	"crypto/sha256"
	"encoding/binary"
	"encoding/hex"
	"math"
	"math/rand"
	"slices"
	"strconv"
	"strings"
	"testing"

	"milepost/api"
	"milepost/hold"
	"milepost/link"
	"milepost/open"
	"milepost/tree"
)

// sum returns the library's hash of a tag byte and parts.
func sum(tag byte, parts ...[]byte) api.Hash {
	return sha256.Sum256(append([]byte{tag}, bytes.Join(parts, nil)...))
}

// leafOf returns the hash of the leaf of a transaction, by the library.
func leafOf(s string) api.Hash { return sum(0, []byte("T"), []byte(s)) }

// node returns the hash of an inner node, by the library.
func node(left, right api.Hash) api.Hash { return sum(1, left[:], right[:]) }

// rooted returns the hash of a root, by the library.
func rooted(n int, top api.Hash) api.Hash {
	return sum(2, binary.BigEndian.AppendUint64(nil, uint64(n)), top[:])
}

// rounds returns the hashes of a list's tree from the bottom up, without the shape of trees: neighbours are joined, and one without a neighbour waits for the next round.
func rounds(l []string) [][]api.Hash {
	var row []api.Hash
	for _, s := range l {
		row = append(row, leafOf(s))
	}
	all := [][]api.Hash{row}
	for len(row) > 1 {
		var next []api.Hash
		for i := 0; i+1 < len(row); i += 2 {
			next = append(next, node(row[i], row[i+1]))
		}
		if len(row)%2 == 1 {
			next = append(next, row[len(row)-1])
		}
		row = next
		all = append(all, row)
	}
	return all
}

// rootOf returns the root of a list, by the library.
func rootOf(l []string) api.Hash {
	if len(l) == 0 {
		return rooted(0, api.Hash{})
	}
	all := rounds(l)
	return rooted(len(l), all[len(all)-1][0])
}

// openingOf returns the opening of a transaction that exists: of each round in which it has a neighbour, the neighbour.
func openingOf(all [][]api.Hash, i int) api.Opening {
	o := api.Opening{Index: i, Count: len(all[0])}
	for _, row := range all[:len(all)-1] {
		if i^1 < len(row) {
			o.Path = append(o.Path, row[i^1])
		}
		i /= 2
	}
	return o
}

// stepsOf returns how many hashes the path of a transaction that exists has: one for each round in which it has a neighbour.
func stepsOf(count, i int) int {
	steps := 0
	for count > 1 {
		if i^1 < count {
			steps++
		}
		count, i = count/2+count%2, i/2
	}
	return steps
}

// determined returns the root that a transaction and an opening with a fitting path determine, by RFC 9162's way of checking an inclusion proof.
func determined(s string, o api.Opening) api.Hash {
	at, last, h := o.Index, o.Count-1, leafOf(s)
	for _, other := range o.Path {
		if at%2 == 1 || at == last {
			h = node(other, h)
			for at%2 == 0 && at != 0 {
				at, last = at/2, last/2
			}
		} else {
			h = node(h, other)
		}
		at, last = at/2, last/2
	}
	return rooted(o.Count, h)
}

// passes tells what Check should, by the promise's words.
func passes(root api.Hash, s string, o api.Opening) bool {
	if o.Count < 1 || o.Count > 1024 || o.Index < 0 || o.Index >= o.Count || len(s) > 4096 {
		return false
	}
	return len(o.Path) == stepsOf(o.Count, o.Index) && determined(s, o) == root
}

// fault returns what May should, by the words of the definition.
func fault(l []string) api.Errno {
	longest := 0
	for _, s := range l {
		longest = max(longest, len(s))
	}
	if len(l) <= 1024 && longest <= 4096 {
		return api.OK
	}
	return api.ErrBig
}

// list returns a list of some different transactions.
func list(count int) []string {
	l := make([]string, count)
	for i := range l {
		l[i] = "transaction " + strconv.Itoa(i)
	}
	return l
}

// of returns a transaction of n bytes.
func of(n int) string { return strings.Repeat("x", n) }

// arbitrary returns a transaction of n arbitrary bytes.
func arbitrary(r *rand.Rand, n int) string {
	b := make([]byte, n)
	r.Read(b)
	return string(b)
}

// put returns a copy of a list with another transaction in one place.
func put(l []string, i int, s string) []string {
	out := slices.Clone(l)
	out[i] = s
	return out
}

// counts returns every length from 0 up to some dozens, and powers of two and MaxTxs with the numbers next to them.
func counts() []int {
	var out []int
	for n := range 40 {
		out = append(out, n)
	}
	return append(out, 63, 64, 65, 127, 128, 129, 255, 256, 257, 258, 511, 512, 513, 1023, 1024, 1025, 1026)
}

// with returns an opening with as many arbitrary hashes as given.
func with(index, count, steps int) api.Opening {
	o := api.Opening{Index: index, Count: count}
	for i := range steps {
		o.Path = append(o.Path, sum(9, []byte{byte(i)}))
	}
	return o
}

// fitting returns a valid opening of arbitrary hashes.
func fitting(index, count int) api.Opening { return with(index, count, stepsOf(count, index)) }

// checkMay compares May with what is wanted.
func checkMay(t *testing.T, what string, l []string, want api.Errno) {
	t.Helper()
	if got := May(l); got != want {
		t.Errorf("%s: May of %d transactions: %v, not %v", what, len(l), got, want)
	}
}

// checkCheck compares Check with what is wanted.
func checkCheck(t *testing.T, what string, root api.Hash, s string, o api.Opening, want bool) {
	t.Helper()
	if got := Check(root, s, o); got != want {
		t.Errorf("%s: Check of %d bytes, index %d, count %d, %d steps: %v", what, len(s), o.Index, o.Count, len(o.Path), got)
	}
}

// checkOpen compares Open of a transaction that exists with what is wanted, in every field.
func checkOpen(t *testing.T, l []string, i int, want api.Opening) {
	t.Helper()
	o, err := Open(l, i)
	if err != api.OK || o.Index != want.Index || o.Count != want.Count || !slices.Equal(o.Path, want.Path) {
		t.Errorf("Open of %d transactions, %d: %v, %v, not %v", len(l), i, o, err, want)
	}
}

// checkNone asks for an error of Open, and for no opening.
func checkNone(t *testing.T, l []string, i int, want api.Errno) {
	t.Helper()
	o, err := Open(l, i)
	if err != want || o.Index != 0 || o.Count != 0 || len(o.Path) != 0 {
		t.Errorf("Open of %d transactions, %d: %v, %v, not %v", len(l), i, o, err, want)
	}
}

// absent returns indices that a list of some length does not have.
func absent(count int) []int {
	return []int{-1, -2, -count - 1, count, count + 1, 2*count + 1, 1 << 32, 1<<32 + 1, math.MinInt32, math.MaxInt32, math.MinInt, math.MinInt + 1, math.MaxInt - 1, math.MaxInt}
}

// P22.1: the chapter's example: the root of no transactions is that of no ids.
func TestExample(t *testing.T) {
	for _, l := range [][]string{nil, {}, list(3)[:0]} {
		if Root(l) != link.Root(nil) || Root(l) != link.Root([]api.Hash{}) {
			t.Errorf("Root of no transactions is %x", Root(l))
		}
	}
}

// P22.1: lists of few and of many transactions, of few bytes and of many, written out.
func TestMayWritten(t *testing.T) {
	long, tooLong := of(4096), of(4097)
	for _, c := range []struct {
		what string
		l    []string
		want api.Errno
	}{
		{"nil", nil, api.OK},
		{"empty", []string{}, api.OK},
		{"the empty transaction", []string{""}, api.OK},
		{"one", []string{"a"}, api.OK},
		{"no text", []string{"\xff\xfe\x00"}, api.OK},
		{"equal", []string{"a", "a", "a"}, api.OK},
		{"a long one", []string{long}, api.OK},
		{"a longer one", []string{tooLong}, api.ErrBig},
		{"a long one first", []string{long, "b", "c"}, api.OK},
		{"a long one in the middle", []string{"a", long, "c"}, api.OK},
		{"a long one last", []string{"a", "b", long}, api.OK},
		{"long ones", []string{long, long, long}, api.OK},
		{"a longer one first", []string{tooLong, "b", "c"}, api.ErrBig},
		{"a longer one in the middle", []string{"a", tooLong, "c"}, api.ErrBig},
		{"a longer one last", []string{"a", "b", tooLong}, api.ErrBig},
		{"a longer one after a long one", []string{long, tooLong}, api.ErrBig},
		{"a longer one before a long one", []string{tooLong, long}, api.ErrBig},
		{"much longer", []string{"a", of(1 << 20)}, api.ErrBig},
		{"2049 letters of two bytes", []string{strings.Repeat("é", 2049)}, api.ErrBig},
		{"2048 letters of two bytes", []string{strings.Repeat("é", 2048)}, api.OK},
		{"MaxTxs", make([]string, 1024), api.OK},
		{"one more", make([]string, 1025), api.ErrBig},
		{"many more", make([]string, 1<<20+1), api.ErrBig},
		{"MaxTxs long ones", slices.Repeat([]string{long}, 1024), api.OK},
		{"MaxTxs, a longer one last", put(make([]string, 1024), 1023, tooLong), api.ErrBig},
		{"MaxTxs, a longer one first", put(make([]string, 1024), 0, tooLong), api.ErrBig},
		{"one more, a longer one", put(make([]string, 1025), 1024, tooLong), api.ErrBig},
	} {
		checkMay(t, c.what, c.l, c.want)
	}
}

// P22.1: lists of all lengths, with one transaction of many bytes in each place.
func TestMay(t *testing.T) {
	for _, count := range counts() {
		want := api.OK
		if count > 1024 {
			want = api.ErrBig
		}
		checkMay(t, "short ones", list(count), want)
		checkMay(t, "empty ones", make([]string, count), want)
		l := list(count)
		for i, was := range l {
			for _, n := range []int{0, 4095, 4096, 4097, 4098, 8192} {
				l[i] = of(n)
				checkMay(t, strconv.Itoa(n)+" bytes", l, fault(l))
			}
			l[i] = was
		}
	}
	for n := range 5000 {
		checkMay(t, strconv.Itoa(n)+" bytes", []string{of(n)}, fault([]string{of(n)}))
	}
}

// P22.1: leaves written out.
func TestTextWritten(t *testing.T) {
	for _, c := range [][2]string{
		{"", "T"},
		{"a", "Ta"},
		{"T", "TT"},
		{"L", "TL"},
		{"\x00", "T\x00"},
		{"\xff\xfe\x00\x80", "T\xff\xfe\x00\x80"},
		{"é世", "Té世"},
		{" a\n", "T a\n"},
		{of(4096), "T" + of(4096)},
		{of(4097), "T" + of(4097)},
	} {
		if got := Text(c[0]); got != c[1] {
			t.Errorf("Text(%q) = %q", c[0], got)
		}
	}
}

// P22.1: transactions of any bytes: the letter, then each byte, in order.
func TestText(t *testing.T) {
	r := rand.New(rand.NewSource(1))
	for n := range 600 {
		s := arbitrary(r, n)
		got := Text(s)
		if len(got) != n+1 || got[0] != 'T' || got[1:] != s {
			t.Errorf("Text(%q) = %q", s, got)
		}
	}
	for b := range 256 {
		s := string([]byte{byte(b)})
		if got := Text(s); len(got) != 2 || got[0] != 'T' || got[1] != byte(b) {
			t.Errorf("Text(%q) = %q", s, got)
		}
	}
}

// P22.3: no leaf of a transaction is that of an id, not even where the transaction is the id, or its leaf, or the rest of it.
func TestNoLeafOfAnId(t *testing.T) {
	r := rand.New(rand.NewSource(2))
	ids := []api.Hash{{}, {0: 'L'}, {0: 'T'}, {0: 'T', 1: 'L'}, {31: 255}, api.Hash([]byte(strings.Repeat("T", 32))), api.Hash([]byte(strings.Repeat("L", 32)))}
	for range 300 {
		ids = append(ids, api.Hash([]byte(arbitrary(r, 32))))
	}
	leaves := map[string]bool{}
	for _, id := range ids {
		leaves[link.Text(id)] = true
	}
	for _, id := range ids {
		leaf := link.Text(id)
		for _, s := range []string{string(id[:]), leaf, leaf[1:], leaf[2:], "L" + leaf, "T" + string(id[:]), string(id[:31]), string(id[:]) + "L"} {
			if leaves[Text(s)] {
				t.Errorf("the leaf of %q is one of an id", s)
			}
			if Root([]string{s}) == link.Root([]api.Hash{id}) {
				t.Errorf("%q and %v have the same root", s, id)
			}
			o, _ := link.Open([]api.Hash{id}, 0)
			checkCheck(t, "an opening of an id", link.Root([]api.Hash{id}), s, o, false)
		}
	}
	for _, s := range []string{"", "L", "a", of(31), of(32), of(33), of(4096), of(4097)} {
		if Text(s)[0] == link.Text(api.Hash{})[0] {
			t.Errorf("the leaf of %q begins as that of an id", s)
		}
	}
}

// P22.1: roots written out, worked out by another program.
func TestRootWritten(t *testing.T) {
	rising := make([]string, 1025)
	for i := range rising {
		rising[i] = string([]byte{byte(i >> 8), byte(i)})
	}
	for _, c := range []struct {
		what string
		l    []string
		want string
	}{
		{"nil", nil, "c6c0aa07f27493d2f2e5cff56c890a353a20086d6c25ec825128e12ae752b2d9"},
		{"empty", []string{}, "c6c0aa07f27493d2f2e5cff56c890a353a20086d6c25ec825128e12ae752b2d9"},
		{"the empty transaction", []string{""}, "978702df24152f18bae55abda5a59a9aa2e7d806e88be1bd95d3ff16c6e2b6ba"},
		{"the empty transaction twice", []string{"", ""}, "82114c517d507e3d1b0c21d9ec9b02ca2d90eeb057c01be1ee45556bac5d0014"},
		{"a", []string{"a"}, "247947fd8f3220afd43ed45519a43f9a13d14b071d51b61c8e983f17b9fc789d"},
		{"T", []string{"T"}, "48e89b8adcbdd01ea33743f22478baaf98f72f1bc884f7e28363093e95d7e647"},
		{"no text", []string{"\xff\xfe\x00\x80"}, "bed89817dbcb73d7a40bdbd84edcc781c5edba9f29199220a02b6a123ee9ab53"},
		{"a, b", []string{"a", "b"}, "6beacf6b223b2a1f9ef25f177e0ef9a690fbccc5a13df2a6c14c24f402020a2d"},
		{"b, a", []string{"b", "a"}, "eaf4529e721a678234c7e8cc250106da77ee66a8a7c73eef8c44385bea4875a3"},
		{"ab", []string{"ab"}, "0a6e3c3f941a7fb3b53231ec8d92091455a5fddff2d7786fddb13f3384977c0b"},
		{"a, a", []string{"a", "a"}, "eff13caf7ed902e102972c5d3483be442ed0a582180bfb72b1558f11446b8635"},
		{"three", []string{"a", "b", "c"}, "6e3110f276dc5c3c59173c085332bf93c88584c909e811e81c6aa96f70da7430"},
		{"five", []string{"a", "b", "c", "d", "e"}, "f82de58cb92efd824cb41b3def074537f421eb58a7de5ab636a23d139e0e65ee"},
		{"MaxTx bytes", []string{of(4096)}, "f71993c8b1c1a3e7ba37ea97e5f7fa3a5f47e6670f5c7e17a29c2efe44aa16c7"},
		{"one byte more", []string{of(4097)}, "5a2071fc435dbac4e842515d9ec12bc8eabcdcc8bb12ad2a6ecd5e1bf96602d1"},
		{"one byte more among others", []string{"a", of(4097), "b"}, "4f05ddb0ec7f5bb948e10f4678db94b01e863de55d201f5c0bcd52ebbf9f6152"},
		{"MaxTxs empty ones", make([]string, 1024), "8ca7118751b8b7218ec1f83ac0f98f2abe277cb9271c833f092e7c408eb8f27b"},
		{"one more", make([]string, 1025), "ac00494f0ec9927a350c73f0490fb5f4deb927a3f2fdcd1bb98b079d4de40517"},
		{"MaxTxs different ones", rising[:1024], "7f6dbffe8701693eade6b573c8ff632a47c91c61df977f08f29e522186b3390b"},
		{"one more different one", rising, "28696f387ac8bf69d1741a7329a985c178c8cef97e485531dc9a99ab7a69f462"},
	} {
		got := Root(c.l)
		if hex.EncodeToString(got[:]) != c.want {
			t.Errorf("Root of %s = %x", c.what, got)
		}
	}
}

// P22.1: lists of all lengths, valid or not, of different and of equal transactions, by the library.
func TestRoot(t *testing.T) {
	for _, count := range append(counts(), 1500, 2047, 2048, 2049) {
		lists := [][]string{list(count), make([]string, count), slices.Repeat([]string{"a"}, count)}
		if count > 0 {
			lists = append(lists, put(list(count), count/2, of(4097)), put(list(count), count-1, of(10000)), put(list(count), 0, of(4096)))
		}
		for k, l := range lists {
			if got, want := Root(l), rootOf(l); got != want {
				t.Errorf("Root of %d transactions, list %d = %x, not %x", count, k, got, want)
			}
		}
	}
}

// P22.1: the root is that of the leaves, not of the transactions alone.
func TestRootOfLeaves(t *testing.T) {
	for _, count := range counts() {
		l := list(count)
		if count > 4 {
			l[3] = ""
			l[4] = of(4097)
		}
		var leaves []string
		for _, s := range l {
			leaves = append(leaves, "T"+s)
		}
		if Root(l) != tree.Root(leaves) {
			t.Errorf("%d transactions: not the root of the leaves", count)
		}
		if count > 0 && Root(l) == tree.Root(l) {
			t.Errorf("%d transactions: the root of the transactions alone", count)
		}
	}
}

// P22.1: lists that differ in length, order, one transaction, or in where one ends have different roots.
func TestRootsDiffer(t *testing.T) {
	seen := map[api.Hash]string{}
	add := func(what string, l []string) {
		root := Root(l)
		if other, is := seen[root]; is {
			t.Errorf("%s of %d and %s have the same root", what, len(l), other)
		}
		seen[root] = what + " of " + strconv.Itoa(len(l))
	}
	for _, count := range counts() {
		add("empty ones", make([]string, count))
		if count == 0 {
			continue
		}
		l := list(count)
		add("different ones", l)
		add("a longer one", put(l, count/2, l[count/2]+"\x00"))
		add("all in one", []string{"count " + strings.Join(l, "")})
		if count > 1 {
			add("an empty one", put(l, count/2, ""))
			l[0], l[count-1] = l[count-1], l[0]
			add("exchanged ones", l)
			l[0], l[1] = l[0]+l[1][:1], l[1][1:]
			add("ones that end elsewhere", l)
		}
	}
}

// P22.1: openings written out.
func TestOpenWritten(t *testing.T) {
	for _, x := range []struct {
		l    []string
		i    int
		want api.Opening
	}{
		{[]string{"a"}, 0, api.Opening{Index: 0, Count: 1}},
		{[]string{""}, 0, api.Opening{Index: 0, Count: 1}},
		{[]string{of(4096)}, 0, api.Opening{Index: 0, Count: 1}},
		{[]string{"a", "b"}, 0, api.Opening{Index: 0, Count: 2, Path: []api.Hash{leafOf("b")}}},
		{[]string{"a", "b"}, 1, api.Opening{Index: 1, Count: 2, Path: []api.Hash{leafOf("a")}}},
		{[]string{"a", "a"}, 1, api.Opening{Index: 1, Count: 2, Path: []api.Hash{leafOf("a")}}},
		{[]string{"a", "b", "c"}, 0, api.Opening{Index: 0, Count: 3, Path: []api.Hash{leafOf("b"), leafOf("c")}}},
		{[]string{"a", "b", "c"}, 1, api.Opening{Index: 1, Count: 3, Path: []api.Hash{leafOf("a"), leafOf("c")}}},
		{[]string{"a", "b", "c"}, 2, api.Opening{Index: 2, Count: 3, Path: []api.Hash{node(leafOf("a"), leafOf("b"))}}},
		{[]string{"a", "", of(4096), "a"}, 1, api.Opening{Index: 1, Count: 4, Path: []api.Hash{leafOf("a"), node(leafOf(of(4096)), leafOf("a"))}}},
	} {
		checkOpen(t, x.l, x.i, x.want)
	}
}

// P22.1: every transaction of valid lists of all lengths, and the indices that there are not; of a list of too many there is none.
func TestOpen(t *testing.T) {
	for _, count := range counts() {
		l := list(count)
		if count > 1024 {
			for _, i := range append(absent(count), 0, 1, 1023, 1024, count-1) {
				checkNone(t, l, i, api.ErrBig)
			}
			continue
		}
		all := rounds(l)
		for i := range l {
			if count < 300 || i%41 == 0 || i > count-3 {
				checkOpen(t, l, i, openingOf(all, i))
			}
		}
		for _, i := range absent(count) {
			checkNone(t, l, i, api.ErrRange)
		}
	}
}

// P22.1: a list that is nil or empty has no transaction to open.
func TestOpenNothing(t *testing.T) {
	for _, l := range [][]string{nil, {}, list(3)[:0]} {
		for _, i := range []int{-1, 0, 1, 1023, 1024, math.MinInt, math.MaxInt} {
			checkNone(t, l, i, api.ErrRange)
		}
	}
}

// P22.1: a transaction that is too long, in each place, is told for every index, ahead of an index that there is not.
func TestOpenTooLong(t *testing.T) {
	for _, count := range []int{1, 2, 3, 5, 8, 100, 1024, 1025} {
		for _, at := range []int{0, count / 2, count - 1} {
			l := put(list(count), at, of(4097))
			for _, i := range append(absent(count), 0, at, count/2, count-1) {
				checkNone(t, l, i, api.ErrBig)
			}
			if count > 1024 {
				continue
			}
			l[at] = of(4096)
			all := rounds(l)
			for _, i := range []int{0, at, count / 2, count - 1} {
				checkOpen(t, l, i, openingOf(all, i))
			}
			checkNone(t, l, count, api.ErrRange)
		}
	}
}

// P22.1: lists around MaxLeaves: the error is ErrBig, whatever the index is.
func TestOpenHuge(t *testing.T) {
	l := make([]string, api.MaxLeaves+1)
	for _, count := range []int{api.MaxLeaves - 1, api.MaxLeaves, api.MaxLeaves + 1} {
		for _, i := range append(absent(count), 0, count-1) {
			checkNone(t, l[:count], i, api.ErrBig)
		}
	}
}

// P22.1: of a valid list, what Open returns is what open.Open does for the leaves.
func TestOpenOfLeaves(t *testing.T) {
	for _, count := range []int{0, 1, 2, 5, 256, 1023, 1024} {
		l := list(count)
		var leaves []string
		for _, s := range l {
			leaves = append(leaves, "T"+s)
		}
		for _, i := range append(absent(count), 0, 1, count/2, count-1) {
			got, err := Open(l, i)
			want, wantErr := open.Open(leaves, i)
			if !open.Same(got, want) || err != wantErr {
				t.Errorf("Open of %d transactions, %d: %v, %v, not %v, %v", count, i, got, err, want, wantErr)
			}
		}
	}
}

// P22.2: what Open returned passes for its transaction and root, and for no other transaction or root.
func TestCheck(t *testing.T) {
	for _, count := range []int{1, 2, 3, 4, 5, 7, 8, 9, 31, 64, 100, 1023, 1024} {
		l := list(count)
		root, all := Root(l), rounds(l)
		roots := []api.Hash{{}, Root(nil), Root(l[1:]), Root(list(count + 1)), all[len(all)-1][0]}
		for i, s := range l {
			if count > 100 && i%97 != 0 && i < count-2 {
				continue
			}
			o, _ := Open(l, i)
			checkCheck(t, "the transaction", root, s, o, true)
			for _, other := range []string{"", "T" + s, s + "\x00", s[1:], strings.ToUpper(s), string(root[:]), l[(i+1)%count], of(4096), of(4097)} {
				checkCheck(t, "another transaction", root, other, o, other == s)
			}
			for _, other := range append(roots, leafOf(s)) {
				checkCheck(t, "another root", other, s, o, false)
			}
			for k := range 32 {
				changed := root
				changed[k] ^= 1 << (k % 8)
				checkCheck(t, "a changed root", changed, s, o, false)
			}
			for k := range s {
				wrong := []byte(s)
				wrong[k] ^= 1 << (k % 8)
				checkCheck(t, "a changed transaction", root, string(wrong), o, false)
			}
		}
	}
}

// P22.2: openings with another Index or Count, or another Path, do not pass.
func TestChangedOpenings(t *testing.T) {
	for _, count := range []int{1, 2, 3, 4, 5, 7, 8, 9, 16, 33, 1022, 1023, 1024} {
		l := list(count)
		root := Root(l)
		for _, i := range []int{0, 1, count / 2, count - 2, count - 1} {
			if i < 0 || i >= count {
				continue
			}
			o, _ := Open(l, i)
			for _, index := range []int{-1, 0, 1, i - 1, i + 1, i ^ 1, count - 1 - i, count - 1, count, -i - 1, i + 1<<32, math.MinInt, math.MaxInt} {
				x := o
				x.Index = index
				checkCheck(t, "another index", root, l[i], x, index == i)
			}
			for _, n := range []int{-1, 0, 1, 2, count - 1, count + 1, 2 * count, 1023, 1024, 1025, -count, count + 1<<32, api.MaxLeaves, api.MaxLeaves + 1, math.MinInt, math.MaxInt} {
				x := o
				x.Count = n
				checkCheck(t, "another count", root, l[i], x, n == count)
			}
			checkPaths(t, root, l[i], o)
		}
	}
	for _, s := range []string{"", "a", "T"} {
		for _, root := range []api.Hash{{}, Root(nil), Root([]string{s}), leafOf(s), rooted(0, leafOf(s))} {
			checkCheck(t, "no opening", root, s, api.Opening{}, false)
			checkCheck(t, "no opening of a path", root, s, with(0, 0, 1), false)
		}
	}
}

// checkPaths changes, for an opening that passes, each hash of its path, takes each away, and puts further ones in.
func checkPaths(t *testing.T, root api.Hash, s string, o api.Opening) {
	t.Helper()
	for k := range o.Path {
		x := o
		x.Path = slices.Clone(o.Path)
		x.Path[k][k] ^= 1
		checkCheck(t, "a changed hash", root, s, x, false)
		x.Path = slices.Delete(slices.Clone(o.Path), k, k+1)
		checkCheck(t, "a hash too few", root, s, x, false)
		if k > 0 {
			x.Path = slices.Clone(o.Path)
			x.Path[k], x.Path[k-1] = x.Path[k-1], x.Path[k]
			checkCheck(t, "two hashes exchanged", root, s, x, false)
		}
	}
	for k := range len(o.Path) + 1 {
		for _, h := range []api.Hash{{}, leafOf(s), root} {
			x := o
			x.Path = slices.Insert(slices.Clone(o.Path), k, h)
			checkCheck(t, "a hash too many", root, s, x, false)
		}
	}
	if len(o.Path) > 0 {
		x := o
		x.Path = nil
		checkCheck(t, "no path", root, s, x, false)
	}
}

// P22.2: the Count may be MaxTxs, and no more, even if the opening holds.
func TestCountLimit(t *testing.T) {
	const s = "a"
	for _, count := range []int{1, 2, 3, 257, 258, 1000, 1022, 1023, 1024, 1025, 1026, 2047, 2048, 2049, 4096, api.MaxLeaves - 1, api.MaxLeaves} {
		for _, i := range []int{0, 1, count / 2, count - 2, count - 1} {
			if i < 0 || i >= count {
				continue
			}
			o := fitting(i, count)
			root, err := hold.Root("T"+s, o)
			if err != api.OK || root != determined(s, o) {
				t.Fatalf("index %d of %d: no root: %v", i, count, err)
			}
			checkCheck(t, "what holds", root, s, o, count <= 1024)
			checkCheck(t, "what does not hold", root, "b", o, false)
		}
	}
	for _, count := range []int{0, -1, -1024, -1025, api.MaxLeaves + 1, math.MinInt32, math.MaxInt32, 1<<32 + 1, 1<<32 + 1024, math.MinInt, math.MinInt + 1024, math.MaxInt} {
		for steps := range 22 {
			for _, i := range []int{0, -1, 1, count - 1} {
				checkCheck(t, "a count that there is not", api.Hash{}, s, with(i, count, steps), false)
				checkCheck(t, "a count that there is not", rooted(count, leafOf(s)), s, with(i, count, steps), false)
			}
		}
	}
}

// P22.2: the transaction may have MaxTx bytes, and no more, even if the opening holds.
func TestLengthLimit(t *testing.T) {
	for _, n := range []int{0, 1, 31, 32, 33, 4094, 4095, 4096, 4097, 4098, 5000, 8192, 65536, 1 << 20} {
		s := of(n)
		for _, c := range [][2]int{{0, 1}, {0, 2}, {1, 2}, {2, 3}, {512, 1024}, {1023, 1024}, {1024, 1025}} {
			o := fitting(c[0], c[1])
			root := determined(s, o)
			if !hold.Check(root, "T"+s, o) {
				t.Fatalf("%d bytes, index %d of %d: the opening does not hold", n, c[0], c[1])
			}
			checkCheck(t, "what holds", root, s, o, n <= 4096 && c[1] <= 1024)
			checkCheck(t, "a byte more", root, s+"x", o, false)
		}
	}
	// The limit is one of bytes, not of letters, and the leaf's letter is none of them.
	for _, s := range []string{strings.Repeat("é", 2048), strings.Repeat("é", 2049), strings.Repeat("\xff", 4096), strings.Repeat("\xff", 4097), strings.Repeat("\x00", 4096)} {
		checkCheck(t, "other bytes", rootOf([]string{s}), s, fitting(0, 1), len(s) <= 4096)
	}
}

// P22.2: openings whose path has the right length, one hash too few or one too many, of all indices, by the promise's words.
func TestCheckForms(t *testing.T) {
	const s = "some transaction"
	for count := range 20 {
		for index := -2; index < count+3; index++ {
			for steps := range 8 {
				o := with(index, count, steps)
				root := rooted(1, leafOf(s))
				if index >= 0 && index < count && steps == stepsOf(count, index) {
					root = determined(s, o)
				}
				checkCheck(t, "any form", root, s, o, passes(root, s, o))
				checkCheck(t, "any form, another root", leafOf(s), s, o, false)
			}
		}
	}
}

// P22.2: an opening of a text that is not the transaction's leaf does not pass: a lower-case letter, no letter, or one byte more.
func TestOtherLeaves(t *testing.T) {
	for _, s := range []string{"", "a", "T", "TT", "\xff\x00", of(32), of(4096)} {
		for _, text := range []string{"", s, "t" + s, "L" + s, "TT" + s, "T" + s + "\x00", s + "T", "T " + s} {
			if text == "T"+s {
				continue
			}
			for _, l := range [][]string{{text}, {text, text}, {"a", text, "b"}} {
				o, _ := open.Open(l, len(l)/2)
				checkCheck(t, "another leaf", tree.Root(l), s, o, false)
			}
		}
		l := []string{"a", "T" + s, "b"}
		o, _ := open.Open(l, 1)
		checkCheck(t, "the leaf among others", tree.Root(l), s, o, true)
	}
}

// P22.2: inner nodes and the hashes of leaves are no transactions.
func TestInnerNodes(t *testing.T) {
	l := list(4)
	all := rounds(l)
	for _, h := range append(slices.Concat(all...), Root(l)) {
		for index := range 2 {
			o := api.Opening{Index: index, Count: 2, Path: all[1][1-index : 2-index]}
			checkCheck(t, "a node", Root(l), string(h[:]), o, false)
		}
		checkCheck(t, "a node", Root(l), string(h[:]), api.Opening{Count: 1}, false)
	}
}

// P22.1, P22.2: random lists: May, Root and Open by the model, and Check of what Open returned.
func TestRandomLists(t *testing.T) {
	r := rand.New(rand.NewSource(4))
	for range 400 {
		l := make([]string, r.Intn(20))
		for i := range l {
			l[i] = arbitrary(r, r.Intn(40))
			if r.Intn(20) == 0 {
				l[i] = arbitrary(r, 4095+r.Intn(4))
			}
		}
		want := fault(l)
		checkMay(t, "a random list", l, want)
		root := Root(l)
		if root != rootOf(l) {
			t.Errorf("Root of %d transactions = %x, not %x", len(l), root, rootOf(l))
		}
		all := rounds(l)
		for i, s := range l {
			checkCheck(t, "the transaction", root, s, openingOf(all, i), len(s) <= 4096)
			if want == api.OK {
				checkOpen(t, l, i, openingOf(all, i))
			} else {
				checkNone(t, l, i, want)
			}
		}
	}
}

// P22.1, P22.2: nothing that was passed in is changed, not even behind its end, and no result shares memory with it.
func TestArgumentsKept(t *testing.T) {
	for _, count := range []int{0, 1, 2, 3, 7, 256, 1024, 1025} {
		whole := append(list(count), list(20)...)
		was := slices.Clone(whole)
		l := whole[:count]
		root := Root(l)
		May(l)
		for _, i := range []int{math.MinInt, -1, 0, 1, count / 2, count - 1, count, math.MaxInt} {
			o, err := Open(l, i)
			if !slices.Equal(whole, was) {
				t.Fatalf("Open of %d transactions, %d changed the list", count, i)
			}
			if err != api.OK {
				continue
			}
			path := slices.Clone(o.Path)
			Check(root, l[i], o)
			Check(api.Hash{}, "", o)
			if !slices.Equal(o.Path, path) {
				t.Errorf("%d transactions, %d: Check changed the path", count, i)
			}
			clear(o.Path)
		}
		if !slices.Equal(whole, was) || Root(l) != root {
			t.Errorf("%d transactions: changed", count)
		}
	}
}

// P22.1: an opening that was returned does not change with the list, nor with a later call.
func TestResultsKept(t *testing.T) {
	l := list(9)
	root := Root(l)
	var all []api.Opening
	for i := range l {
		o, _ := Open(l, i)
		all = append(all, o)
	}
	again, _ := Open(l, 4)
	clear(again.Path)
	was := slices.Clone(l)
	clear(l)
	Root(l)
	for i, o := range all {
		checkCheck(t, "an earlier opening", root, was[i], o, true)
		clear(o.Path)
		if i+1 < len(all) {
			checkCheck(t, "the next opening", root, was[i+1], all[i+1], true)
		}
	}
}

// P22.1, P22.2: the same arguments have the same results.
func TestRepeated(t *testing.T) {
	l := list(100)
	root := Root(l)
	for i, s := range l {
		a, _ := Open(l, i)
		b, _ := Open(l, i)
		if Text(s) != Text(s) || Root(l) != root || May(l) != api.OK || !open.Same(a, b) || Check(root, s, a) != Check(root, s, b) {
			t.Errorf("transaction %d: different results", i)
		}
	}
}

// P22.1, P22.2, P22.3: any transaction, list, index, and opening.
func FuzzTxs(f *testing.F) {
	f.Add("", 0, 0, 0, 0, 0)
	f.Add("a", 1, 0, 0, 1, 0)
	f.Add("T", 3, 2, 2, 3, 1)
	f.Add(of(4096), 1024, 1023, 1023, 1024, 10)
	f.Add(of(4097), 3, 1, 1, 3, 2)
	f.Add("\xff", 1025, 1024, 1024, 1025, 1)
	f.Add("a", 5, math.MinInt, math.MaxInt, math.MinInt, 9)
	f.Fuzz(func(t *testing.T, s string, count, i, index, other, steps int) {
		l := list((count%1100 + 1100) % 1100)
		for k := range l {
			if k%3 == 1 {
				l[k] = s
			}
		}
		if len(Text(s)) == 33 && Text(s) == link.Text(api.Hash([]byte(Text(s)[1:]))) {
			t.Errorf("the leaf of %q is that of an id", s)
		}
		root := Root(l)
		if want := rootOf(l); root != want {
			t.Errorf("Root of %d transactions = %x, not %x", len(l), root, want)
		}
		checkMay(t, "any list", l, fault(l))
		if err := fault(l); err != api.OK {
			checkNone(t, l, i, err)
		} else if i < 0 || i >= len(l) {
			checkNone(t, l, i, api.ErrRange)
		} else {
			want := openingOf(rounds(l), i)
			checkOpen(t, l, i, want)
			checkCheck(t, "the transaction", root, l[i], want, true)
			want.Index, want.Count = index, other
			checkCheck(t, "other numbers", root, l[i], want, passes(root, l[i], want))
		}
		o := with(index, other, (steps%25+25)%25)
		if other > 0 && other <= api.MaxLeaves && index >= 0 && index < other {
			o = fitting(index, other)
			root = determined(s, o)
		}
		checkCheck(t, "any opening", root, s, o, passes(root, s, o))
	})
}
