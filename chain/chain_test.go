package chain

import (
	"bytes"
	"crypto/sha256"
	"encoding/binary"
	"encoding/hex"
	"math"
	"math/big"
	"math/rand"
	"slices"
	"strconv"
	"strings"
	"testing"

	"milepost/api"
	"milepost/block"
	"milepost/ident"
	"milepost/inter"
	"milepost/work"
)

// free stands for any level of an id with work.
const free = -2

// sum returns the library's hash of a tag byte and parts.
func sum(tag byte, parts ...[]byte) api.Hash {
	return sha256.Sum256(append([]byte{tag}, bytes.Join(parts, nil)...))
}

// rootOf returns the root of some leaves, by the library, without the shape of trees: neighbours are joined, and one without a neighbour waits for the next round.
func rootOf(leaves []string) api.Hash {
	row := []api.Hash{{}}
	if len(leaves) > 0 {
		row = nil
	}
	for _, s := range leaves {
		row = append(row, sum(0, []byte(s)))
	}
	for len(row) > 1 {
		var next []api.Hash
		for i := 0; i+1 < len(row); i += 2 {
			next = append(next, sum(1, row[i][:], row[i+1][:]))
		}
		if len(row)%2 == 1 {
			next = append(next, row[len(row)-1])
		}
		row = next
	}
	return sum(2, binary.BigEndian.AppendUint64(nil, uint64(len(leaves))), row[0][:])
}

// linksOf returns the root of a vector, by the library.
func linksOf(v []api.Hash) api.Hash {
	var leaves []string
	for _, id := range v {
		leaves = append(leaves, "L"+string(id[:]))
	}
	return rootOf(leaves)
}

// txsOf returns the root of a list of transactions, by the library.
func txsOf(l []string) api.Hash {
	var leaves []string
	for _, s := range l {
		leaves = append(leaves, "T"+s)
	}
	return rootOf(leaves)
}

// idOf returns the id of a header, by the library.
func idOf(h api.Header) api.Hash {
	height := binary.BigEndian.AppendUint32(nil, h.Height)
	return sum(3, height, h.Links[:], h.Txs[:], binary.BigEndian.AppendUint64(nil, h.Nonce))
}

// number returns a hash as a number of the library.
func number(h api.Hash) *big.Int { return new(big.Int).SetBytes(h[:]) }

// moved returns a hash plus d.
func moved(h api.Hash, d int64) api.Hash {
	var out api.Hash
	new(big.Int).Add(number(h), big.NewInt(d)).FillBytes(out[:])
	return out
}

// levelOf returns the level of an id as chapter 19 defines it, by the library.
func levelOf(id, target api.Hash) int {
	x, most := number(id), number(target)
	level := -1
	for n := 0; n <= 255 && x.Cmp(most) <= 0; n++ {
		level = n
		most.Rsh(most, 1)
	}
	return level
}

// idsOf returns the ids of blocks, by the library.
func idsOf(l []api.Block) []api.Hash {
	var ids []api.Hash
	for _, b := range l {
		ids = append(ids, idOf(b.Header))
	}
	return ids
}

// levelsOf returns the levels of blocks as the chapter defines them.
func levelsOf(target api.Hash, l []api.Block) []int {
	var levels []int
	for i, id := range idsOf(l) {
		if i == 0 {
			levels = append(levels, 256)
		} else {
			levels = append(levels, levelOf(id, target))
		}
	}
	return levels
}

// vectorAfter returns the vector after blocks with some ids and levels as chapter 20 defines it: it looks for the last block of every level. An id without work counts as one of level 0.
func vectorAfter(ids []api.Hash, levels []int) []api.Hash {
	var v []api.Hash
	for level := 0; len(ids) > 0; level++ {
		last := len(ids) - 1
		for last > 0 && max(levels[last], 0) < level {
			last--
		}
		v = append(v, ids[last])
		if last == 0 {
			break
		}
	}
	return v
}

// vectorsOf returns the vectors of blocks, and that of the next one, each by its definition.
func vectorsOf(target api.Hash, l []api.Block) [][]api.Hash {
	ids, levels := idsOf(l), levelsOf(target, l)
	var out [][]api.Hash
	for i := 0; i <= len(l); i++ {
		out = append(out, vectorAfter(ids[:i], levels[:i]))
	}
	return out
}

// validTxs tells whether a list of transactions is valid, by the words of chapter 22.
func validTxs(l []string) bool {
	longest := 0
	for _, s := range l {
		longest = max(longest, len(s))
	}
	return len(l) <= 1024 && longest <= 4096
}

// faultOf returns what Check should, by the promise's words and the library.
func faultOf(c api.Config, l []api.Block) api.Fault {
	switch {
	case len(l) == 0:
		return api.Fault{Err: api.ErrNone, At: 0}
	case len(l) > 1024:
		return api.Fault{Err: api.ErrBig, At: 1024}
	}
	vectors := vectorsOf(c.Target, l)
	for i, b := range l {
		switch {
		case i == 0 && b.Header != c.Genesis:
			return api.Fault{Err: api.ErrAnchor, At: i}
		case b.Header.Height != uint32(i):
			return api.Fault{Err: api.ErrHeight, At: i}
		case !validTxs(b.Txs):
			return api.Fault{Err: api.ErrBig, At: i}
		case b.Header.Links != linksOf(vectors[i]), b.Header.Txs != txsOf(b.Txs):
			return api.Fault{Err: api.ErrRoot, At: i}
		case levelOf(idOf(b.Header), c.Target) < 0:
			return api.Fault{Err: api.ErrWork, At: i}
		}
	}
	return api.Fault{}
}

// fill returns a hash all of whose bytes are b.
func fill(b byte) api.Hash { return api.Hash(bytes.Repeat([]byte{b}, 32)) }

// full returns the greatest target, under which every id has work.
func full() api.Hash { return fill(255) }

// half returns a target that half of the ids have work for.
func half() api.Hash { return moved(api.Hash{128}, -1) }

// list returns a list of some different transactions.
func list(count int) []string {
	l := make([]string, count)
	for i := range l {
		l[i] = "transaction " + strconv.Itoa(i)
	}
	return l
}

// of returns a transaction of n bytes.
func of(n int) string { return strings.Repeat("x", n) }

// mined returns a header whose nonce is the next one with which its id has a level: -1 for one without work, or free.
func mined(h api.Header, target api.Hash, level int) api.Header {
	for {
		h.Nonce++
		got := levelOf(idOf(h), target)
		if got == level || level == free && got >= 0 {
			return h
		}
	}
}

// grownOn returns blocks followed by ones whose ids have some levels, each with its vector, by the library.
func grownOn(l []api.Block, target api.Hash, nonce uint64, levels ...int) []api.Block {
	out := slices.Clone(l)
	ids, were := idsOf(out), levelsOf(target, out)
	for _, level := range levels {
		i := len(out)
		h := api.Header{Height: uint32(i), Links: linksOf(vectorAfter(ids, were)), Txs: txsOf(list(i % 4)), Nonce: nonce}
		h = mined(h, target, level)
		out = append(out, api.Block{Header: h, Txs: list(i % 4)})
		ids, were = append(ids, idOf(h)), append(were, levelOf(idOf(h), target))
	}
	return out
}

// grown returns a chain whose ids have some levels.
func grown(target api.Hash, levels ...int) []api.Block { return grownOn(nil, target, 0, levels...) }

// long returns a chain of some blocks of any levels.
func long(target api.Hash, count int) []api.Block {
	return grown(target, slices.Repeat([]int{free}, count)...)
}

// config returns the configuration of a chain: its target, and its first header as Genesis.
func config(target api.Hash, l []api.Block) api.Config {
	c := api.Config{Target: target}
	if len(l) > 0 {
		c.Genesis = l[0].Header
	}
	return c
}

// put returns a copy of a list with another element in one place.
func put[T any](l []T, i int, x T) []T {
	out := slices.Clone(l)
	out[i] = x
	return out
}

// exchanged returns a copy of a list with two elements exchanged.
func exchanged[T any](l []T, i, k int) []T {
	out := slices.Clone(l)
	out[i], out[k] = out[k], out[i]
	return out
}

// without returns a copy of a list that lacks one element.
func without[T any](l []T, i int) []T { return slices.Delete(slices.Clone(l), i, i+1) }

// more returns a copy of a list with one element more in one place.
func more[T any](l []T, i int, x T) []T { return slices.Insert(slices.Clone(l), i, x) }

// twins returns copies of blocks that share no memory with them.
func twins(l []api.Block) []api.Block {
	out := make([]api.Block, len(l))
	for i, b := range l {
		out[i].Header = b.Header
		for _, s := range b.Txs {
			out[i].Txs = append(out[i].Txs, strings.Clone(s))
		}
	}
	return out
}

// sameBlocks tells whether two lists have the same blocks.
func sameBlocks(a, b []api.Block) bool { return slices.EqualFunc(a, b, block.Same) }

// sameVectors tells whether two lists have the same vectors.
func sameVectors(a, b [][]api.Hash) bool { return slices.EqualFunc(a, b, slices.Equal[[]api.Hash]) }

// targets are targets of all kinds.
func targets() map[string]api.Hash {
	return map[string]api.Hash{
		"0":             {},
		"1":             {31: 1},
		"2":             {31: 2},
		"2^128":         {15: 1},
		"a sixteenth":   {16},
		"a quarter":     {64},
		"half":          half(),
		"more than one": {128},
		"almost all":    moved(full(), -1),
		"the greatest":  full(),
	}
}

// lists are lists of blocks of all kinds, valid and not.
func lists() map[string][]api.Block {
	g := grown(full(), free)
	a := long(full(), 6)
	b := grownOn(a[:2], full(), 1000, free, free, free, free)
	weak := grown(half(), -1, 0, -1, 2, -1, -1)
	return map[string][]api.Block{
		"nil":                    nil,
		"empty":                  {},
		"the zero block":         {{}},
		"zero blocks":            make([]api.Block, 4),
		"the genesis block":      g,
		"it twice":               {g[0], g[0]},
		"it three times":         {g[0], g[0], g[0]},
		"two":                    long(full(), 2),
		"three":                  long(full(), 3),
		"six":                    a,
		"six of a lesser target": long(half(), 6),
		"many":                   long(full(), 90),
		"many of a quarter":      long(api.Hash{64}, 40),
		"without work":           weak,
		"only such":              grown(half(), -1, -1, -1, -1),
		"the first one such":     grown(half(), -1, 0, 1, 2),
		"the last one such":      grown(half(), 3, 0, 1, -1),
		"of two chains":          {a[0], a[1], b[2], a[3], b[4]},
		"exchanged":              exchanged(a, 1, 4),
		"without the first":      a[1:],
		"without a middle one":   without(a, 3),
		"doubled":                more(a, 3, a[3]),
		"from its end":           {a[5], a[4], a[3], a[2], a[1], a[0]},
		"a list's beginning":     a[:3],
		"transactions too long":  put(a, 2, api.Block{Header: a[2].Header, Txs: []string{of(5000)}}),
		"no transactions":        put(a, 3, api.Block{Header: a[3].Header}),
		"a height far off":       put(a, 1, api.Block{Header: api.Header{Height: math.MaxUint32}}),
	}
}

// checkFault compares Check with what is wanted, and with the model.
func checkFault(t *testing.T, what string, c api.Config, l []api.Block, want api.Fault) {
	t.Helper()
	if got := Check(c, l); got != want {
		t.Errorf("%s: Check of %d blocks: %v at %d, not %v at %d", what, len(l), got.Err, got.At, want.Err, want.At)
	}
	if model := faultOf(c, l); model != want {
		t.Errorf("%s: the model of %d blocks says %v at %d, not %v at %d", what, len(l), model.Err, model.At, want.Err, want.At)
	}
}

// checkLists compares Ids, Levels and Vectors with the model.
func checkLists(t *testing.T, what string, target api.Hash, l []api.Block) {
	t.Helper()
	if got, want := Ids(l), idsOf(l); !slices.Equal(got, want) {
		t.Errorf("%s: Ids of %d blocks: %x, not %x", what, len(l), got, want)
	}
	if got, want := Levels(target, l), levelsOf(target, l); !slices.Equal(got, want) {
		t.Errorf("%s: Levels of %d blocks: %v, not %v", what, len(l), got, want)
	}
	if got, want := Vectors(target, l), vectorsOf(target, l); !sameVectors(got, want) {
		t.Errorf("%s: Vectors of %d blocks: %x, not %x", what, len(l), got, want)
	}
}

// P24.1: the chapter's example: vectors of no blocks is a single empty vector.
func TestExample(t *testing.T) {
	for name, target := range targets() {
		for _, l := range [][]api.Block{nil, {}, long(full(), 3)[:0]} {
			if got := Vectors(target, l); len(got) != 1 || len(got[0]) != 0 {
				t.Errorf("target %s: %v", name, got)
			}
			if ids, levels := Ids(l), Levels(target, l); len(ids) != 0 || len(levels) != 0 {
				t.Errorf("target %s: %v, %v", name, ids, levels)
			}
		}
	}
}

// written is a list of blocks, worked out by another program, for the target half: their headers' roots and nonces, ids, levels, and vectors by the indices of their blocks.
type written struct {
	links, txs string
	nonce      uint64
	l          []string
	id         string
	level      int
	vector     []int
}

// writtenOnes returns the written blocks; the fifth one has no work.
func writtenOnes() []written {
	return []written{
		{"c6c0aa07f27493d2f2e5cff56c890a353a20086d6c25ec825128e12ae752b2d9", "c6c0aa07f27493d2f2e5cff56c890a353a20086d6c25ec825128e12ae752b2d9", 1, nil, "2a253e2b64b9c9ec1fe0fa23619e8bcedd8236f2e75b23379603eacf4db3d581", 256, nil},
		{"7b36256036241a2a8f36603940f69471071c6bfffb1ded26a12dce04de6b5351", "247947fd8f3220afd43ed45519a43f9a13d14b071d51b61c8e983f17b9fc789d", 3, []string{"a"}, "469fa07c3b27cb585d06a0545328c3d77f12ad719e83e3f0d284a3bae5fbfa24", 0, []int{0}},
		{"1113503567f8d8099ec05b6299b210d3dac63533912d19bf9b6206e016af3206", "6beacf6b223b2a1f9ef25f177e0ef9a690fbccc5a13df2a6c14c24f402020a2d", 24, []string{"a", "b"}, "1e5a0eefa75fe44ac25d1ae3ede8408ba0e0e6d2387081e3d3414dece622a478", 2, []int{1, 0}},
		{"59a7843f3effbe1af8fe3da85ef843c0994b3387680c54efbe452b81571b911f", "978702df24152f18bae55abda5a59a9aa2e7d806e88be1bd95d3ff16c6e2b6ba", 17, []string{""}, "3c5d2d9e501e488a75eca3ab2495ad84fd9e06d06f700f75b682d6271beab022", 1, []int{2, 2, 2, 0}},
		{"33394a98edae78b870d5efb386ab64b9ed8f36303f674af4211955ea2950adb9", "c6c0aa07f27493d2f2e5cff56c890a353a20086d6c25ec825128e12ae752b2d9", 1, nil, "f7d1de9ce552aa54026866b5b4880d7897e6820058adf1dfd543535946dbfd43", -1, []int{3, 3, 2, 0}},
		{"2a32ff8b7f30c555aa1a9b22c4b49d10032805f65ab81aef549cb2a3e4181793", "5647220e18e27ab84dcff92d13201ab6e6ec9c8694ac53528e6e73790cc57552", 21, []string{"c"}, "0be209e01e825a2aff3c7c86ff0c9a87cb69e5769fa6adab4a1d89316a908a39", 3, []int{4, 3, 2, 0}},
		{"7a693f26aa7751cf6539d591c21beef49aa9b4051b6870e092f899f64fa9f195", "eff13caf7ed902e102972c5d3483be442ed0a582180bfb72b1558f11446b8635", 2, []string{"a", "a"}, "4cefe63995089749a696a529e7e280bf7df4705e7190e17aa59bc34233b243d7", 0, []int{5, 5, 5, 5, 0}},
	}
}

// hashOf returns the hash of hexadecimal digits.
func hashOf(t *testing.T, digits string) api.Hash {
	t.Helper()
	b, err := hex.DecodeString(digits)
	if err != nil {
		t.Fatal(err)
	}
	return api.Hash(b)
}

// P24.1, P24.2: blocks written out, with hashes that another program worked out.
func TestWritten(t *testing.T) {
	var l []api.Block
	var ids []api.Hash
	var levels []int
	vectors := [][]api.Hash{nil}
	all := writtenOnes()
	for i, w := range all {
		l = append(l, api.Block{Header: api.Header{Height: uint32(i), Links: hashOf(t, w.links), Txs: hashOf(t, w.txs), Nonce: w.nonce}, Txs: w.l})
		ids, levels = append(ids, hashOf(t, w.id)), append(levels, w.level)
		next := []int{6, 5, 5, 5, 0}
		if i+1 < len(all) {
			next = all[i+1].vector
		}
		var v []api.Hash
		for _, k := range next {
			v = append(v, ids[k])
		}
		vectors = append(vectors, v)
	}
	for n := range len(l) + 1 {
		if got := Ids(l[:n]); !slices.Equal(got, ids[:n]) {
			t.Errorf("%d blocks: the ids are %x", n, got)
		}
		if got := Levels(half(), l[:n]); !slices.Equal(got, levels[:n]) {
			t.Errorf("%d blocks: the levels are %v", n, got)
		}
		if got := Vectors(half(), l[:n]); !sameVectors(got, vectors[:n+1]) {
			t.Errorf("%d blocks: the vectors are %x", n, got)
		}
	}
	if got := Levels(full(), l); !slices.Equal(got, []int{256, 1, 3, 2, 0, 4, 1}) {
		t.Errorf("the levels for the greatest target are %v", got)
	}
	for n := 1; n <= len(l); n++ {
		want := api.Fault{}
		if n > 4 {
			want = api.Fault{Err: api.ErrWork, At: 4}
		}
		checkFault(t, "written blocks", config(half(), l), l[:n], want)
	}
	checkFault(t, "the greatest target", config(full(), l), l, api.Fault{Err: api.ErrRoot, At: 2})
}

// P24.1: Ids, Levels and Vectors of lists of all kinds, for targets of all kinds.
func TestLists(t *testing.T) {
	for tName, target := range targets() {
		for lName, l := range lists() {
			what := lName + ", target " + tName
			checkLists(t, what, target, l)
			if len(Ids(l)) != len(l) || len(Levels(target, l)) != len(l) || len(Vectors(target, l)) != len(l)+1 {
				t.Errorf("%s: %d blocks have %d ids, %d levels, %d vectors", what, len(l), len(Ids(l)), len(Levels(target, l)), len(Vectors(target, l)))
			}
		}
	}
}

// P24.1: ids and levels are those of the layers below, but for the first level.
func TestLayersBelow(t *testing.T) {
	for tName, target := range targets() {
		for lName, l := range lists() {
			ids, levels := Ids(l), Levels(target, l)
			for i, b := range l {
				want := work.Level(ident.Id(b.Header), target)
				if i == 0 {
					want = api.MaxLevel + 1
				}
				if ids[i] != ident.Id(b.Header) || levels[i] != want {
					t.Errorf("%s, target %s: block %d has the id %x and the level %d", lName, tName, i, ids[i], levels[i])
				}
			}
		}
	}
}

// P24.1: each vector is that of First or Next, of the block before it.
func TestFirstAndNext(t *testing.T) {
	for tName, target := range targets() {
		for lName, l := range lists() {
			vectors := Vectors(target, l)
			for i, v := range vectors {
				var want []api.Hash
				switch {
				case i == 1:
					want = inter.First(ident.Id(l[0].Header))
				case i > 1:
					id := ident.Id(l[i-1].Header)
					want = inter.Next(vectors[i-1], id, work.Level(id, target))
				}
				if !slices.Equal(v, want) {
					t.Errorf("%s, target %s: vector %d is %x, not %x", lName, tName, i, v, want)
				}
			}
		}
	}
}

// P24.1: the first level is above all others, whatever the first id's is, and whatever the target is.
func TestFirstLevel(t *testing.T) {
	for _, level := range []int{-1, 0, 1, 5} {
		l := grown(half(), level, 0, -1, 1)
		if got := Levels(half(), l); !slices.Equal(got, []int{256, 0, -1, 1}) {
			t.Errorf("the first id's level is %d: %v", level, got)
		}
		for name, target := range targets() {
			for n := 1; n <= len(l); n++ {
				if got := Levels(target, l[:n]); got[0] != 256 {
					t.Errorf("the first id's level is %d, target %s: %v", level, name, got)
				}
			}
		}
	}
}

// P24.1: levels at the least targets and the greatest one, and at the ids themselves.
func TestLevelsAtTargets(t *testing.T) {
	l := long(full(), 12)
	for _, target := range []api.Hash{{}, {31: 1}} {
		got := Levels(target, l)
		if got[0] != 256 || slices.Max(got[1:]) != -1 || slices.Min(got[1:]) != -1 {
			t.Errorf("target %x: %v", target, got)
		}
	}
	if got := Levels(full(), l); slices.Min(got) < 0 {
		t.Errorf("the greatest target: %v", got)
	}
	for i, id := range idsOf(l)[1:] {
		for _, c := range []struct {
			target api.Hash
			want   int
		}{{id, 0}, {moved(id, -1), -1}, {moved(id, 1), 0}} {
			if got := Levels(c.target, l)[i+1]; got != c.want {
				t.Errorf("block %d: the level at %x is %d, not %d", i+1, c.target, got, c.want)
			}
			checkLists(t, "a target near an id", c.target, l)
		}
	}
}

// P24.1: vectors after levels that rise, fall, stay the same, or are none.
func TestVectors(t *testing.T) {
	for _, levels := range [][]int{
		{0}, {-1}, {7},
		{0, 0}, {0, 3}, {3, 0}, {-1, -1},
		{0, 0, 1, 2, 3, 4, 5, 6, 7}, {0, 7, 6, 5, 4, 3, 2, 1, 0},
		{2, 0, 0, 0, 0, 0}, {0, 3, 3, 3, 3}, {5, 1, 1, 1, 1, 1},
		{0, 0, 5, 0, 5, 0}, {0, 4, 0, 0, 4, 0, 0}, {6, 1, 3, 2, 5, 0, 4},
		{0, 2, -1, 2, -1}, {0, 4, -1, -1, -1}, {-1, 1, 2, 3}, {0, -1, -1, 6}, {-1, -1, 0, 0},
	} {
		l := grown(half(), levels...)
		vectors := Vectors(half(), l)
		highest := -1
		for i, v := range vectors {
			switch {
			case i == 0 && len(v) != 0, i > 0 && len(v) != highest+2:
				t.Errorf("%v: vector %d has %d entries", levels, i, len(v))
			}
			if i > 0 && i < len(levels) {
				highest = max(highest, levels[i], 0)
			}
		}
		if want := vectorsOf(half(), l); !sameVectors(vectors, want) {
			t.Errorf("%v: %x, not %x", levels, vectors, want)
		}
		if got := Levels(half(), l); !slices.Equal(got[1:], levels[1:]) {
			t.Errorf("%v: the levels are %v", levels, got)
		}
	}
}

// P24.1: the last vector is the one with which the next block is made.
func TestNextVector(t *testing.T) {
	for _, target := range []api.Hash{full(), half(), {32}} {
		l := grown(target, free)
		for n := 1; n < 20; n++ {
			vectors := Vectors(target, l)
			b := block.Make(uint32(n), vectors[n], []string{"next"}, 0)
			b.Header = mined(b.Header, target, free)
			l = append(l, b)
			checkFault(t, "a next block", config(target, l), l, api.Fault{})
			if !sameVectors(Vectors(target, l)[:n+1], vectors) {
				t.Errorf("%d blocks: the vectors changed with the next block", n)
			}
		}
	}
}

// P24.2: no block, under any configuration.
func TestNoBlock(t *testing.T) {
	for _, c := range []api.Config{{}, config(full(), long(full(), 1)), {Target: full(), M: 1, K: 1, A: 1, B: 2, MaxBlocks: 1, MaxProofs: 1}} {
		for _, l := range [][]api.Block{nil, {}, long(full(), 2)[:0]} {
			checkFault(t, "no block", c, l, api.Fault{Err: api.ErrNone, At: 0})
		}
	}
}

// P24.2: MaxChain blocks are valid, one more is too many, whatever else there is.
func TestMaxChain(t *testing.T) {
	l := long(full(), 1026)
	c := config(full(), l)
	tooMany := api.Fault{Err: api.ErrBig, At: 1024}
	for _, k := range []struct {
		what string
		c    api.Config
		l    []api.Block
		want api.Fault
	}{
		{"one less", c, l[:1023], api.Fault{}},
		{"MaxChain", c, l[:1024], api.Fault{}},
		{"MaxChain, another genesis block", config(full(), l[1:]), l[:1024], api.Fault{Err: api.ErrAnchor, At: 0}},
		{"MaxChain, the zero configuration", api.Config{}, l[:1024], api.Fault{Err: api.ErrAnchor, At: 0}},
		{"MaxChain, faulty at the end", c, put(l, 1023, l[1022])[:1024], api.Fault{Err: api.ErrHeight, At: 1023}},
		{"one more", c, l[:1025], tooMany},
		{"two more", c, l, tooMany},
		{"one more, the zero configuration", api.Config{}, l[:1025], tooMany},
		{"one more, faulty at 0", c, put(l, 0, api.Block{})[:1025], tooMany},
		{"one more, the first one left out", c, l[1:], tooMany},
		{"one more, faulty at the end", c, put(l, 1024, api.Block{})[:1025], tooMany},
		{"one more, zero blocks", c, make([]api.Block, 1025), tooMany},
		{"many more", c, slices.Repeat(l, 4), tooMany},
		{"MaxChain zero blocks", api.Config{}, make([]api.Block, 1024), api.Fault{Err: api.ErrRoot, At: 0}},
	} {
		checkFault(t, k.what, k.c, k.l, k.want)
	}
	checkLists(t, "more than MaxChain", full(), l)
}

// P24.2: the genesis block alone.
func TestGenesisAlone(t *testing.T) {
	for _, l := range [][]api.Block{long(full(), 1), {block.Make(0, nil, list(3), 9)}, {block.Make(0, nil, []string{""}, math.MaxUint64)}} {
		c, id := config(full(), l), idOf(l[0].Header)
		checkFault(t, "the greatest target", c, l, api.Fault{})
		c.Target = id
		checkFault(t, "the id as the target", c, l, api.Fault{})
		c.Target = moved(id, 1)
		checkFault(t, "a target above the id", c, l, api.Fault{})
		for _, target := range []api.Hash{{}, {31: 1}, moved(id, -1)} {
			c.Target = target
			checkFault(t, "a target below the id", c, l, api.Fault{Err: api.ErrWork, At: 0})
		}
	}
	zero := []api.Block{{}}
	checkFault(t, "the zero block", api.Config{Target: full()}, zero, api.Fault{Err: api.ErrRoot, At: 0})
	checkFault(t, "all zero", api.Config{}, zero, api.Fault{Err: api.ErrRoot, At: 0})
	checkFault(t, "the zero configuration", api.Config{}, long(full(), 1), api.Fault{Err: api.ErrAnchor, At: 0})
}

// headers returns a header changed in one field at a time.
func headers(h api.Header) []api.Header {
	var out []api.Header
	change := func(f func(h *api.Header)) {
		c := h
		f(&c)
		if c != h {
			out = append(out, c)
		}
	}
	for bit := range 32 {
		change(func(h *api.Header) { h.Height ^= 1 << bit })
	}
	for bit := range 64 {
		change(func(h *api.Header) { h.Nonce ^= 1 << bit })
	}
	for i := range 32 {
		change(func(h *api.Header) { h.Links[i] ^= 1 })
		change(func(h *api.Header) { h.Txs[i] ^= 128 })
	}
	change(func(h *api.Header) { h.Links = api.Hash{} })
	change(func(h *api.Header) { h.Txs = api.Hash{} })
	change(func(h *api.Header) { h.Links, h.Txs = h.Txs, h.Links })
	change(func(h *api.Header) { *h = api.Header{} })
	return out
}

// P24.2: a first header that is not Genesis, in one field at a time, whatever else is wrong with it.
func TestAnchor(t *testing.T) {
	l := grownOn([]api.Block{block.Make(0, nil, list(2), 7)}, full(), 0, free, free)
	c := config(full(), l)
	want := api.Fault{Err: api.ErrAnchor, At: 0}
	checkFault(t, "no change", c, l, api.Fault{})
	for _, h := range headers(l[0].Header) {
		other := c
		other.Genesis = h
		for n := 1; n <= len(l); n++ {
			checkFault(t, "another Genesis", other, l[:n], want)
			checkFault(t, "another first header", c, put(l, 0, api.Block{Header: h, Txs: l[0].Txs})[:n], want)
		}
		checkFault(t, "too many transactions", c, []api.Block{{Header: h, Txs: list(1025)}}, want)
		checkFault(t, "no transactions", c, []api.Block{{Header: h}}, want)
		other = c
		other.Target = api.Hash{}
		checkFault(t, "no work", other, []api.Block{{Header: h, Txs: l[0].Txs}}, want)
	}
	checkFault(t, "without the first", c, l[1:], want)
	checkFault(t, "the last one alone", c, l[2:], want)
}

// P24.2: a first block that has the header Genesis, but is faulty.
func TestFaultyGenesis(t *testing.T) {
	for _, k := range []struct {
		what string
		b    api.Block
		want api.Errno
	}{
		{"no fault", block.Make(0, nil, list(2), 1), api.OK},
		{"height 1", block.Make(1, nil, list(2), 1), api.ErrHeight},
		{"the greatest height", block.Make(math.MaxUint32, nil, list(2), 1), api.ErrHeight},
		{"height 1, too many transactions", block.Make(1, nil, list(1025), 1), api.ErrHeight},
		{"MaxTxs transactions", block.Make(0, nil, list(1024), 1), api.OK},
		{"too many transactions", block.Make(0, nil, list(1025), 1), api.ErrBig},
		{"MaxTx bytes", block.Make(0, nil, []string{of(4096)}, 1), api.OK},
		{"too long a transaction", block.Make(0, nil, []string{"a", of(4097)}, 1), api.ErrBig},
		{"too many transactions, a vector", block.Make(0, []api.Hash{{1}}, list(1025), 1), api.ErrBig},
		{"a vector", block.Make(0, []api.Hash{{1}}, list(2), 1), api.ErrRoot},
		{"a vector of the zero id", block.Make(0, []api.Hash{{}}, list(2), 1), api.ErrRoot},
		{"no transactions", api.Block{Header: block.Make(0, nil, list(2), 1).Header}, api.ErrRoot},
		{"another transaction", api.Block{Header: block.Make(0, nil, list(2), 1).Header, Txs: []string{"a", "b"}}, api.ErrRoot},
		{"one more transaction", api.Block{Header: block.Make(0, nil, list(2), 1).Header, Txs: list(3)}, api.ErrRoot},
	} {
		l := grownOn([]api.Block{k.b}, full(), 0, free, free)
		for n := 1; n <= len(l); n++ {
			c := config(full(), l)
			checkFault(t, k.what, c, l[:n], api.Fault{Err: k.want, At: 0})
			c.Target = api.Hash{}
			want := k.want
			if want == api.OK {
				want = api.ErrWork
			}
			checkFault(t, k.what+", no work", c, l[:n], api.Fault{Err: want, At: 0})
		}
	}
}

// flaw is something wrong with a block that is not the first one.
type flaw struct {
	what string
	want api.Errno
	make func(b *api.Block)
}

// flaws returns flaws in the order in which they count; more than one can be in one block.
func flaws(target api.Hash) []flaw {
	longer := func(b *api.Block, l ...string) { b.Txs = slices.Concat(b.Txs, l) }
	return []flaw{
		{"another height", api.ErrHeight, func(b *api.Block) { b.Header.Height++ }},
		{"a height far off", api.ErrHeight, func(b *api.Block) { b.Header.Height ^= 1 << 31 }},
		{"a height that is 256 more", api.ErrHeight, func(b *api.Block) { b.Header.Height ^= 256 }},
		{"too many transactions", api.ErrBig, func(b *api.Block) {
			longer(b, list(1025)...)
			b.Header.Txs = txsOf(b.Txs)
		}},
		{"too long a transaction", api.ErrBig, func(b *api.Block) {
			longer(b, of(4097))
			b.Header.Txs = txsOf(b.Txs)
		}},
		{"another root of links", api.ErrRoot, func(b *api.Block) { b.Header.Links[31] ^= 1 }},
		{"another root of transactions", api.ErrRoot, func(b *api.Block) { b.Header.Txs[0] ^= 128 }},
		{"one more transaction", api.ErrRoot, func(b *api.Block) { longer(b, "one more") }},
		{"no work", api.ErrWork, func(b *api.Block) { b.Header = mined(b.Header, target, -1) }},
	}
}

// spoilt returns a copy of a chain with some flaws in one block, and its configuration, whose Genesis is the first header.
func spoilt(target api.Hash, l []api.Block, i int, some ...flaw) ([]api.Block, api.Config) {
	out := twins(l)
	for _, f := range some {
		f.make(&out[i])
	}
	return out, config(target, out)
}

// P24.2: each fault of each block, at that block's index.
func TestEachFault(t *testing.T) {
	l := grown(half(), free, free, free, free, free, free, free)
	checkFault(t, "no fault", config(half(), l), l, api.Fault{})
	for _, f := range flaws(half()) {
		for i := range l {
			bad, c := spoilt(half(), l, i, f)
			checkFault(t, f.what, c, bad, api.Fault{Err: f.want, At: i})
			for n := 1; n <= i; n++ {
				checkFault(t, f.what+", after the end", c, bad[:n], api.Fault{})
			}
			if i == 0 && bad[0].Header != l[0].Header {
				checkFault(t, f.what+", another Genesis", config(half(), l), bad, api.Fault{Err: api.ErrAnchor, At: 0})
			}
		}
	}
}

// P24.2: an id without work at the first, at a middle and at the last block, while every other one has work.
func TestNoWork(t *testing.T) {
	for _, n := range []int{1, 2, 3, 8} {
		for i := range n {
			levels := slices.Repeat([]int{free}, n)
			levels[i] = -1
			l := grown(half(), levels...)
			checkFault(t, "one without work", config(half(), l), l, api.Fault{Err: api.ErrWork, At: i})
			for k := i + 1; k < n; k++ {
				levels = put(levels, k, -1)
				l = grown(half(), levels...)
				checkFault(t, "several without work", config(half(), l), l, api.Fault{Err: api.ErrWork, At: i})
			}
		}
	}
}

// P24.2: an id that is the target itself has work, one above it has none.
func TestTargetOfAnId(t *testing.T) {
	// The second block's vector does not depend on the target, so that any target can be tried.
	for nonce := range uint64(20) {
		l := grownOn(nil, full(), nonce, free, free)
		ids := idsOf(l)
		highest := 0
		if number(ids[1]).Cmp(number(ids[0])) > 0 {
			highest = 1
		}
		checkFault(t, "the greatest id as the target", config(ids[highest], l), l, api.Fault{})
		checkFault(t, "a target above it", config(moved(ids[highest], 1), l), l, api.Fault{})
		checkFault(t, "a target below it", config(moved(ids[highest], -1), l), l, api.Fault{Err: api.ErrWork, At: highest})
		checkFault(t, "a target below both", config(api.Hash{31: 1}, l), l, api.Fault{Err: api.ErrWork, At: 0})
	}
}

// P24.2: of two or three faults in one block the first one in their order counts.
func TestOrder(t *testing.T) {
	l := grown(half(), free, free, free, free)
	all := flaws(half())
	for i := range l {
		for a, f := range all {
			for b, g := range all[a+1:] {
				bad, c := spoilt(half(), l, i, f, g)
				checkFault(t, f.what+", "+g.what, c, bad, api.Fault{Err: f.want, At: i})
				for _, h := range all[a+1+b+1:] {
					bad, c := spoilt(half(), l, i, f, g, h)
					if got := Check(c, bad); got != (api.Fault{Err: f.want, At: i}) {
						t.Errorf("%s, %s, %s: %v at %d", f.what, g.what, h.what, got.Err, got.At)
					}
				}
				if i == 0 {
					c.Genesis.Nonce++
					checkFault(t, f.what+", "+g.what+", another Genesis", c, bad, api.Fault{Err: api.ErrAnchor, At: 0})
				}
			}
		}
	}
}

// P24.2: of faults in two blocks that in the first one counts.
func TestTwoBlocks(t *testing.T) {
	l := grown(half(), free, free, free, free, free)
	for _, f := range flaws(half()) {
		for _, g := range flaws(half()) {
			for i := range l {
				for k := i + 1; k < len(l); k++ {
					bad, _ := spoilt(half(), l, k, g)
					bad, c := spoilt(half(), bad, i, f)
					if got := Check(c, bad); got != (api.Fault{Err: f.want, At: i}) {
						t.Errorf("%s at %d, %s at %d: %v at %d", f.what, i, g.what, k, got.Err, got.At)
					}
				}
			}
		}
	}
}

// P24.2: a valid chain whose blocks are exchanged, left out or doubled.
func TestMovedBlocks(t *testing.T) {
	for _, n := range []int{2, 3, 5, 12} {
		l := long(full(), n)
		c := config(full(), l)
		// place returns an error at an index, or ErrAnchor for the first one.
		place := func(err api.Errno, i int) api.Fault {
			if i == 0 {
				return api.Fault{Err: api.ErrAnchor, At: 0}
			}
			return api.Fault{Err: err, At: i}
		}
		for i := range l {
			left := place(api.ErrHeight, i)
			if i == n-1 {
				left = api.Fault{}
			}
			checkFault(t, "left out", c, without(l, i), left)
			checkFault(t, "doubled", c, more(l, i, l[i]), api.Fault{Err: api.ErrHeight, At: i + 1})
			checkFault(t, "doubled at the end", c, append(slices.Clone(l), l[i]), api.Fault{Err: api.ErrHeight, At: n})
			checkFault(t, "a zero block", c, put(l, i, api.Block{}), place(api.ErrHeight, i))
			checkFault(t, "a zero block before it", c, more(l, i, api.Block{}), place(api.ErrHeight, i))
			for k := i + 1; k < n; k++ {
				checkFault(t, "exchanged", c, exchanged(l, i, k), place(api.ErrHeight, i))
				checkFault(t, "instead of an earlier one", c, put(l, i, l[k]), place(api.ErrHeight, i))
				checkFault(t, "instead of a later one", c, put(l, k, l[i]), api.Fault{Err: api.ErrHeight, At: k})
			}
		}
		turned := slices.Clone(l)
		slices.Reverse(turned)
		checkFault(t, "turned round", c, turned, place(api.ErrHeight, 0))
	}
}

// P24.2, P24.3: a valid chain changed in one field of one block, with all later ones kept.
func TestChangedField(t *testing.T) {
	for _, n := range []int{1, 2, 3, 7} {
		l := long(full(), n)
		c := config(full(), l)
		for i := range l {
			for _, h := range headers(l[i].Header) {
				want := api.Fault{Err: api.ErrRoot, At: i}
				switch {
				case i == 0:
					want.Err = api.ErrAnchor
				case h.Height != uint32(i):
					want.Err = api.ErrHeight
				case h.Nonce != l[i].Header.Nonce && i == n-1:
					want = api.Fault{}
				case h.Nonce != l[i].Header.Nonce:
					want = api.Fault{Err: api.ErrRoot, At: i + 1}
				}
				checkFault(t, "another header", c, put(l, i, api.Block{Header: h, Txs: l[i].Txs}), want)
			}
			for _, txs := range [][]string{list(i%4 + 1), append(list(i%4), ""), append([]string{""}, list(i%4)...), {"other"}, {of(4096)}} {
				checkFault(t, "other transactions", c, put(l, i, api.Block{Header: l[i].Header, Txs: txs}), api.Fault{Err: api.ErrRoot, At: i})
			}
			checkFault(t, "too many transactions", c, put(l, i, api.Block{Header: l[i].Header, Txs: list(1025)}), api.Fault{Err: api.ErrBig, At: i})
			checkFault(t, "too long a transaction", c, put(l, i, api.Block{Header: l[i].Header, Txs: []string{of(4097)}}), api.Fault{Err: api.ErrBig, At: i})
		}
	}
}

// P24.2: a block whose vector belongs to another chain.
func TestOtherChain(t *testing.T) {
	a := long(full(), 9)
	for fork := range 8 {
		b := grownOn(a[:fork], full(), 5000, slices.Repeat([]int{free}, 9-fork)...)
		c := config(full(), a)
		other := api.Fault{}
		if fork == 0 {
			other = api.Fault{Err: api.ErrAnchor, At: 0}
		}
		checkFault(t, "the other chain", c, b, other)
		// The block at the fork has the same vector in both chains; those above it have not.
		for i := fork + 1; i < 9; i++ {
			checkFault(t, "one of the other chain", c, put(a, i, b[i]), api.Fault{Err: api.ErrRoot, At: i})
			checkFault(t, "the end of the other chain", c, slices.Concat(a[:i], b[i:]), api.Fault{Err: api.ErrRoot, At: i})
			checkFault(t, "one of the first chain", config(full(), b), put(b, i, a[i]), api.Fault{Err: api.ErrRoot, At: i})
		}
		made := block.Make(8, Vectors(full(), b)[8], list(1), 3)
		checkFault(t, "made with the other chain's vector", c, put(a, 8, made), api.Fault{Err: api.ErrRoot, At: 8})
	}
	// The levels depend on the target, so that a chain's vectors are not those of another target.
	l := grown(full(), free, 3, 1, 2, 0)
	c := config(full(), l)
	checkFault(t, "its target", c, l, api.Fault{})
	c.Target = fill(127)
	checkFault(t, "another target", c, l[:3], api.Fault{Err: api.ErrRoot, At: 2})
}

// P24.2: only Genesis and Target of a configuration count.
func TestConfig(t *testing.T) {
	l := long(full(), 5)
	for _, n := range []int{math.MinInt, -1, 0, 1, 4, 1024, 1025, math.MaxInt} {
		for field := range 6 {
			c := config(full(), l)
			*[]*int{&c.M, &c.K, &c.A, &c.B, &c.MaxBlocks, &c.MaxProofs}[field] = n
			checkFault(t, "a number", c, l, api.Fault{})
			checkFault(t, "a number, a fault", c, l[1:], api.Fault{Err: api.ErrAnchor, At: 0})
			checkFault(t, "a number, no block", c, nil, api.Fault{Err: api.ErrNone, At: 0})
		}
	}
}

// P24.3: every nonempty prefix of a valid chain is valid, and its ids, levels and vectors are those of the chain.
func TestPrefixes(t *testing.T) {
	for name, target := range map[string]api.Hash{"the greatest": full(), "half": half(), "a sixteenth": {16}} {
		l := long(target, 50)
		c := config(target, l)
		ids, levels, vectors := Ids(l), Levels(target, l), Vectors(target, l)
		for n := 1; n <= len(l); n++ {
			checkFault(t, name+", a prefix", c, l[:n], api.Fault{})
			checkFault(t, name+", a copy of a prefix", c, twins(l[:n]), api.Fault{})
			if !slices.Equal(Ids(l[:n]), ids[:n]) || !slices.Equal(Levels(target, l[:n]), levels[:n]) || !sameVectors(Vectors(target, l[:n]), vectors[:n+1]) {
				t.Errorf("%s: a prefix of %d has other ids, levels or vectors", name, n)
			}
		}
	}
	l := long(full(), 1024)
	for _, n := range []int{1, 2, 511, 512, 513, 1023, 1024} {
		checkFault(t, "a prefix of a long chain", config(full(), l), l[:n], api.Fault{})
	}
}

// again returns a chain with the nonces and transactions of another one, but for one nonce.
func again(l []api.Block, changed int) []api.Block {
	var out []api.Block
	for i, b := range l {
		nonce := b.Header.Nonce
		if i == changed {
			nonce += 1 << 40
		}
		out = append(out, block.Make(b.Header.Height, Vectors(full(), out)[i], b.Txs, nonce))
	}
	return out
}

// P24.3: a changed id changes everything after it: all later vectors, roots of links, and ids.
func TestChangedId(t *testing.T) {
	l := long(full(), 14)
	vectors := Vectors(full(), l)
	if !sameBlocks(again(l, len(l)), l) {
		t.Fatal("a chain made again is another one")
	}
	for i := range l {
		other := again(l, i)
		checkFault(t, "a chain with a changed id", config(full(), other), other, api.Fault{})
		if !sameBlocks(other[:i], l[:i]) || Ids(other)[i] == Ids(l)[i] {
			t.Errorf("block %d changed: not the first one to change", i)
		}
		for k := i + 1; k <= len(l); k++ {
			if slices.Equal(Vectors(full(), other)[k], vectors[k]) {
				t.Errorf("block %d changed: vector %d did not", i, k)
			}
			if k < len(l) && (other[k].Header.Links == l[k].Header.Links || Ids(other)[k] == Ids(l)[k]) {
				t.Errorf("block %d changed: block %d did not", i, k)
			}
		}
		// With all later blocks kept, the next one's links are wrong.
		if i > 0 && i+1 < len(l) {
			checkFault(t, "a changed id, the later blocks kept", config(full(), l), put(l, i, other[i]), api.Fault{Err: api.ErrRoot, At: i + 1})
		}
	}
}

// P24.1, P24.2: nothing that was passed in is changed, not even behind its end.
func TestArgumentsKept(t *testing.T) {
	whole := long(half(), 12)
	whole[11].Txs = list(7)[:2]
	was := twins(whole)
	for n := range 12 {
		for _, target := range targets() {
			Ids(whole[:n])
			Levels(target, whole[:n])
			Vectors(target, whole[:n])
			Check(config(target, whole), whole[:n])
			Check(api.Config{}, whole[:n])
			if !sameBlocks(whole, was) {
				t.Fatalf("%d blocks: changed", n)
			}
		}
	}
	Check(config(half(), whole), whole)
	if !sameBlocks(whole, was) || !slices.Equal(whole[11].Txs[:7], list(7)) {
		t.Errorf("blocks changed")
	}
}

// P24.1: results are new memory: they share none with the blocks, with each other, or with later results.
func TestResultsKept(t *testing.T) {
	l := grown(half(), free, 3, 0, 2, -1, 0, 1)
	ids, levels, vectors := Ids(l), Levels(half(), l), Vectors(half(), l)
	for i := range vectors {
		was := Vectors(half(), l)
		clear(was[i])
		_ = append(was[i], api.Hash{1})
		for k, v := range was {
			if k != i && !slices.Equal(v, vectors[k]) {
				t.Errorf("vectors %d and %d share memory", i, k)
			}
		}
	}
	clear(Ids(l))
	clear(Levels(half(), l))
	for _, v := range Vectors(half(), l) {
		clear(v)
	}
	if !slices.Equal(Ids(l), ids) || !slices.Equal(Levels(half(), l), levels) || !sameVectors(Vectors(half(), l), vectors) {
		t.Errorf("results share memory with later ones")
	}
	was := twins(l)
	clear(l)
	if !slices.Equal(Ids(was), ids) || !slices.Equal(Levels(half(), was), levels) || !sameVectors(Vectors(half(), was), vectors) {
		t.Errorf("results changed with the blocks")
	}
}

// P24.1, P24.2: the same arguments have the same results, whatever was asked in between.
func TestRepeated(t *testing.T) {
	a, b := long(half(), 9), grown(half(), free, -1, free)
	for range 3 {
		checkLists(t, "again", half(), a)
		checkFault(t, "again", config(half(), a), a, api.Fault{})
		checkLists(t, "another one", full(), b)
		checkFault(t, "another one", config(half(), b), b, api.Fault{Err: api.ErrWork, At: 1})
	}
}

// changedAt returns a copy of a chain with something changed at one index, by the kind of the change.
func changedAt(l []api.Block, target api.Hash, kind, i, k int) []api.Block {
	out := twins(l)
	switch some := flaws(target); {
	case kind < len(some):
		// Without an id that has no work, the last flaw has none to find.
		if some[kind].want != api.ErrWork || target != full() {
			some[kind].make(&out[i])
		}
	case kind == len(some):
		out[i].Header.Nonce++
	case kind == len(some)+1:
		out = exchanged(out, i, k)
	case kind == len(some)+2:
		out = without(out, i)
	case kind == len(some)+3:
		out = more(out, k, out[i])
	case kind == len(some)+4:
		out = grownOn(out[:i], target, uint64(k), free, free)
	}
	return out
}

// P24.1, P24.2, P24.3: random chains and changes, by the model.
func TestRandomChains(t *testing.T) {
	r := rand.New(rand.NewSource(24))
	some := []api.Hash{full(), half(), {64}, fill(0x33)}
	for range 1500 {
		target := some[r.Intn(len(some))]
		l := grown(target, slices.Repeat([]int{free}, 1+r.Intn(9))...)
		c := config(target, l)
		checkFault(t, "a random chain", c, l, api.Fault{})
		checkLists(t, "a random chain", some[r.Intn(len(some))], l)
		for range 1 + r.Intn(2) {
			if len(l) > 0 {
				l = changedAt(l, target, r.Intn(15), r.Intn(len(l)), r.Intn(len(l)))
			}
		}
		if r.Intn(2) == 0 {
			c = config(target, l)
		}
		checkFault(t, "a random change", c, l, faultOf(c, l))
		checkLists(t, "a random change", target, l)
		c.Target = some[r.Intn(len(some))]
		checkFault(t, "a random target", c, l, faultOf(c, l))
	}
}

// P24.1, P24.2, P24.3: any targets, nonces and changes.
func FuzzChain(f *testing.F) {
	f.Add(byte(255), byte(255), uint64(0), 3, 0, 0, 0)
	f.Add(byte(127), byte(255), uint64(7), 5, 8, 2, 1)
	f.Add(byte(200), byte(0), uint64(9), 1, 9, 0, 0)
	f.Add(byte(64), byte(1), uint64(math.MaxUint64), 9, 13, 4, 2)
	f.Fuzz(func(t *testing.T, first, rest byte, nonce uint64, count, kind, i, k int) {
		target := fill(rest)
		target[0] = max(first, 16)
		l := grownOn(nil, target, nonce, slices.Repeat([]int{free}, 1+int(uint(count)%12))...)
		c := config(target, l)
		checkFault(t, "any chain", c, l, api.Fault{})
		checkLists(t, "any chain", target, l)
		bad := changedAt(l, target, int(uint(kind)%15), int(uint(i)%uint(len(l))), int(uint(k)%uint(len(l))))
		checkFault(t, "any change", c, bad, faultOf(c, bad))
		checkLists(t, "any change", target, bad)
		c.Target = api.Hash{first, rest}
		checkFault(t, "any target", c, bad, faultOf(c, bad))
		checkLists(t, "any target", c.Target, bad)
	})
}
