package block

import (
	"bytes"
	"crypto/sha256"
	"encoding/binary"
	"encoding/hex"
	"math"
	"math/rand"
	"slices"
	"strconv"
	"strings"
	"testing"

	"milepost/api"
	"milepost/link"
	"milepost/txs"
)

// sum returns the library's hash of a tag byte and parts.
func sum(tag byte, parts ...[]byte) api.Hash {
	return sha256.Sum256(append([]byte{tag}, bytes.Join(parts, nil)...))
}

// rootOf returns the root of some leaves, by the library, without the shape of trees: neighbours are joined, and one without a neighbour waits for the next round.
func rootOf(leaves []string) api.Hash {
	row := []api.Hash{{}}
	if len(leaves) > 0 {
		row = nil
	}
	for _, s := range leaves {
		row = append(row, sum(0, []byte(s)))
	}
	for len(row) > 1 {
		var next []api.Hash
		for i := 0; i+1 < len(row); i += 2 {
			next = append(next, sum(1, row[i][:], row[i+1][:]))
		}
		if len(row)%2 == 1 {
			next = append(next, row[len(row)-1])
		}
		row = next
	}
	return sum(2, binary.BigEndian.AppendUint64(nil, uint64(len(leaves))), row[0][:])
}

// linksOf returns the root of a vector, by the library.
func linksOf(v []api.Hash) api.Hash {
	var leaves []string
	for _, id := range v {
		leaves = append(leaves, "L"+string(id[:]))
	}
	return rootOf(leaves)
}

// txsOf returns the root of a list of transactions, by the library.
func txsOf(l []string) api.Hash {
	var leaves []string
	for _, s := range l {
		leaves = append(leaves, "T"+s)
	}
	return rootOf(leaves)
}

// made returns the block that Make should return, by the library.
func made(height uint32, v []api.Hash, l []string, nonce uint64) api.Block {
	return api.Block{Header: api.Header{Height: height, Links: linksOf(v), Txs: txsOf(l), Nonce: nonce}, Txs: l}
}

// valid tells whether a list of transactions is valid, by the words of the definition.
func valid(l []string) bool {
	longest := 0
	for _, s := range l {
		longest = max(longest, len(s))
	}
	return len(l) <= 1024 && longest <= 4096
}

// fault returns what Check should, by the promise's words and the library.
func fault(b api.Block, height uint32, v []api.Hash) api.Errno {
	switch {
	case b.Header.Height != height:
		return api.ErrHeight
	case !valid(b.Txs):
		return api.ErrBig
	case b.Header.Links != linksOf(v), b.Header.Txs != txsOf(b.Txs):
		return api.ErrRoot
	}
	return api.OK
}

// vector returns a vector of some different ids.
func vector(count int) []api.Hash {
	v := make([]api.Hash, count)
	for i := range v {
		v[i] = api.Hash{byte(i >> 8), byte(i)}
	}
	return v
}

// list returns a list of some different transactions.
func list(count int) []string {
	l := make([]string, count)
	for i := range l {
		l[i] = "transaction " + strconv.Itoa(i)
	}
	return l
}

// of returns a transaction of n bytes.
func of(n int) string { return strings.Repeat("x", n) }

// put returns a copy of a list with another element in one place.
func put[T any](l []T, i int, x T) []T {
	out := slices.Clone(l)
	out[i] = x
	return out
}

// exchanged returns a copy of a list with two elements exchanged.
func exchanged[T any](l []T, i, k int) []T {
	out := slices.Clone(l)
	out[i], out[k] = out[k], out[i]
	return out
}

// without returns a copy of a list that lacks one element.
func without[T any](l []T, i int) []T { return slices.Delete(slices.Clone(l), i, i+1) }

// more returns a copy of a list with one element more in one place.
func more[T any](l []T, i int, x T) []T { return slices.Insert(slices.Clone(l), i, x) }

// twin returns a copy of a block that shares no memory with it.
func twin(b api.Block) api.Block {
	var l []string
	for _, s := range b.Txs {
		l = append(l, strings.Clone(s))
	}
	return api.Block{Header: b.Header, Txs: l}
}

// vectors returns vectors of all kinds, by name.
func vectors() map[string][]api.Hash {
	id := api.Hash{7, 31: 9}
	return map[string][]api.Hash{
		"nil":            nil,
		"empty":          {},
		"the zero id":    {{}},
		"one id":         {id},
		"two ids":        vector(2),
		"equal ids":      {id, id, id},
		"several ids":    vector(9),
		"256 ids":        vector(256),
		"MaxLinks ids":   vector(257),
		"one id more":    vector(258),
		"many more ids":  vector(600),
		"257 equal ids":  make([]api.Hash, 257),
		"258 equal ids":  make([]api.Hash, 258),
		"the greatest":   {api.Hash(bytes.Repeat([]byte{255}, 32))},
		"a vector's end": vector(20)[:5],
	}
}

// lists returns lists of transactions of all kinds, valid and not, by name.
func lists() map[string][]string {
	return map[string][]string{
		"nil":                     nil,
		"empty":                   {},
		"the empty transaction":   {""},
		"one":                     {"a"},
		"two":                     {"a", "b"},
		"equal ones":              {"a", "a", "a"},
		"an empty one among them": {"a", "", "b"},
		"no text":                 {"\xff\xfe\x00\x80", "\x00"},
		"several":                 list(11),
		"MaxTx bytes":             {of(4096)},
		"MaxTx bytes, last":       {"a", "b", of(4096)},
		"one byte more":           {of(4097)},
		"one byte more, last":     {"a", "b", of(4097)},
		"many bytes more":         {"a", of(1 << 16), "b"},
		"2049 letters of 2 bytes": {strings.Repeat("é", 2049)},
		"MaxTxs":                  list(1024),
		"MaxTxs empty ones":       make([]string, 1024),
		"one more":                list(1025),
		"one more, empty ones":    make([]string, 1025),
		"many more":               list(1500),
		"more, and a longer one":  put(list(1025), 1024, of(4097)),
		"MaxTxs and a longer one": put(list(1024), 1023, of(4097)),
		"a list's beginning":      list(20)[:5],
	}
}

// heights are the heights that the tests use most.
func heights() []uint32 { return []uint32{0, 1, 2, 255, 256, 1 << 16, 1 << 31, math.MaxUint32} }

// nonces are the nonces that the tests use most.
func nonces() []uint64 { return []uint64{0, 1, 256, 1 << 32, 1 << 63, math.MaxUint64} }

// checkMake compares Make with what is wanted, in every field.
func checkMake(t *testing.T, what string, height uint32, v []api.Hash, l []string, nonce uint64) {
	t.Helper()
	b, want := Make(height, v, l, nonce), made(height, v, l, nonce)
	if b.Header != want.Header {
		t.Errorf("%s: Make(%d, .., %d) has the header %v, not %v", what, height, nonce, b.Header, want.Header)
	}
	if !slices.Equal(b.Txs, l) {
		t.Errorf("%s: Make returned %d other transactions", what, len(b.Txs))
	}
}

// checkCheck compares Check with what is wanted.
func checkCheck(t *testing.T, what string, b api.Block, height uint32, v []api.Hash, want api.Errno) {
	t.Helper()
	if got := Check(b, height, v); got != want {
		t.Errorf("%s: Check of a block of height %d with %d transactions, at %d, with %d ids: %v, not %v", what, b.Header.Height, len(b.Txs), height, len(v), got, want)
	}
}

// checkSame compares Same with what is wanted, in both orders.
func checkSame(t *testing.T, what string, a, b api.Block, want bool) {
	t.Helper()
	if Same(a, b) != want || Same(b, a) != want {
		t.Errorf("%s: Same is %v and %v", what, Same(a, b), Same(b, a))
	}
}

// P23.1: the chapter's example: for height 0, no vector and no transactions both roots are equal.
func TestExample(t *testing.T) {
	for _, v := range [][]api.Hash{nil, {}} {
		for _, l := range [][]string{nil, {}} {
			b := Make(0, v, l, 0)
			if b.Header.Links != b.Header.Txs || b.Header.Links == (api.Hash{}) {
				t.Errorf("the roots are %x and %x", b.Header.Links, b.Header.Txs)
			}
		}
	}
	if b := Make(0, vector(1), []string{string(make([]byte, 32))}, 0); b.Header.Links == b.Header.Txs {
		t.Errorf("an id and a transaction with the same bytes have the same root")
	}
}

// P23.1: headers written out, with roots that another program worked out.
func TestMakeWritten(t *testing.T) {
	for _, c := range []struct {
		what       string
		height     uint32
		v          []api.Hash
		l          []string
		nonce      uint64
		links, txs string
	}{
		{"nothing", 0, nil, nil, 0, "c6c0aa07f27493d2f2e5cff56c890a353a20086d6c25ec825128e12ae752b2d9", "c6c0aa07f27493d2f2e5cff56c890a353a20086d6c25ec825128e12ae752b2d9"},
		{"empty ones", 1, []api.Hash{}, []string{}, 1, "c6c0aa07f27493d2f2e5cff56c890a353a20086d6c25ec825128e12ae752b2d9", "c6c0aa07f27493d2f2e5cff56c890a353a20086d6c25ec825128e12ae752b2d9"},
		{"only a vector", 1, []api.Hash{{1}}, nil, 2, "5a787b6bdbf6b78663be813cfff3e7e6e8920453c477cc5061e260c696b4e4d6", "c6c0aa07f27493d2f2e5cff56c890a353a20086d6c25ec825128e12ae752b2d9"},
		{"only transactions", 0, nil, []string{"a"}, 3, "c6c0aa07f27493d2f2e5cff56c890a353a20086d6c25ec825128e12ae752b2d9", "247947fd8f3220afd43ed45519a43f9a13d14b071d51b61c8e983f17b9fc789d"},
		{"two of each", 2, []api.Hash{{1}, {2}}, []string{"a", "b"}, 1 << 40, "25c3a0986b381e5dfeb32b9d2fb5f391de4c0e28c3b61110042bb926c357aaf8", "6beacf6b223b2a1f9ef25f177e0ef9a690fbccc5a13df2a6c14c24f402020a2d"},
		{"two of each, exchanged", 2, []api.Hash{{2}, {1}}, []string{"b", "a"}, 1 << 40, "e478b00c86f8a4eafcbb4139f3da88a2cebf934ba36cf38abaa73538f7e29d31", "eaf4529e721a678234c7e8cc250106da77ee66a8a7c73eef8c44385bea4875a3"},
		{"zero ones", math.MaxUint32, []api.Hash{{}}, []string{""}, math.MaxUint64, "7b25cd598544c8547d1ae5467cc602baf547f7c687b3aca539cbd591060c03be", "978702df24152f18bae55abda5a59a9aa2e7d806e88be1bd95d3ff16c6e2b6ba"},
		{"equal ones", 7, []api.Hash{{5}, {5}, {5}}, []string{"a", "a", "a"}, 8, "eb88bbd7ed0b0adff9002fcd370934bbdfe7d32a84f699ebe316dbcd266059a9", "b08ab4d6c3da93e38bbd57f29f4dd2525381df5817868f5e77b1a66c46e07c26"},
		{"the most", 300, vector(257), make([]string, 1024), 9, "a02165a1cef30adb8e0eb7caca8a131d4eeef9e226b31bfce74fb99978ff0892", "8ca7118751b8b7218ec1f83ac0f98f2abe277cb9271c833f092e7c408eb8f27b"},
		{"one more", 300, vector(258), make([]string, 1025), 9, "86a22379533f91cd58d6e1feef6d7219d2360b825d18f3b38b9f110c862c0f4b", "ac00494f0ec9927a350c73f0490fb5f4deb927a3f2fdcd1bb98b079d4de40517"},
		{"a long one", 300, vector(300), []string{of(4096)}, 9, "643903b455436fa17dafe120235e9a8a08e6b5983f166b3d9ef1827c21fb97ac", "f71993c8b1c1a3e7ba37ea97e5f7fa3a5f47e6670f5c7e17a29c2efe44aa16c7"},
		{"a longer one", 300, vector(300), []string{of(4097)}, 9, "643903b455436fa17dafe120235e9a8a08e6b5983f166b3d9ef1827c21fb97ac", "5a2071fc435dbac4e842515d9ec12bc8eabcdcc8bb12ad2a6ecd5e1bf96602d1"},
	} {
		b := Make(c.height, c.v, c.l, c.nonce)
		h := b.Header
		if h.Height != c.height || h.Nonce != c.nonce || hex.EncodeToString(h.Links[:]) != c.links || hex.EncodeToString(h.Txs[:]) != c.txs {
			t.Errorf("%s: the header is %d, %x, %x, %d", c.what, h.Height, h.Links, h.Txs, h.Nonce)
		}
		if !slices.Equal(b.Txs, c.l) {
			t.Errorf("%s: %d other transactions", c.what, len(b.Txs))
		}
	}
}

// P23.1: every field of the header, for vectors and transactions of all kinds, by the library and by both layers below.
func TestMake(t *testing.T) {
	for vName, v := range vectors() {
		for lName, l := range lists() {
			what := vName + ", " + lName
			checkMake(t, what, 5, v, l, 6)
			h := Make(1, v, l, 2).Header
			if h.Links != link.Root(v) || h.Txs != txs.Root(l) {
				t.Errorf("%s: the roots are not those of the layers below", what)
			}
		}
	}
	for _, height := range heights() {
		for _, nonce := range nonces() {
			checkMake(t, "any numbers", height, vector(3), list(2), nonce)
			checkMake(t, "any numbers alone", height, nil, nil, nonce)
		}
	}
}

// P23.1: vectors and transactions of each number.
func TestMakeCounts(t *testing.T) {
	for n := range 70 {
		checkMake(t, "each number of ids", uint32(n), vector(n), nil, 0)
		checkMake(t, "each number of transactions", 0, nil, list(n), uint64(n))
		checkMake(t, "as many ids as transactions", 0, vector(n), list(n), 0)
	}
	for n := 250; n < 264; n++ {
		checkMake(t, "each number of ids", 0, vector(n), list(1), 0)
	}
	for n := 1020; n < 1030; n++ {
		checkMake(t, "each number of transactions", 0, vector(1), list(n), 0)
	}
}

// P23.2, P23.3: what Make returned passes Check if its transactions are valid, with its height and its vector, whether nil or empty.
func TestCheckOfMake(t *testing.T) {
	for vName, v := range vectors() {
		for lName, l := range lists() {
			want := api.OK
			if !valid(l) {
				want = api.ErrBig
			}
			b := Make(9, v, l, 8)
			checkCheck(t, vName+", "+lName, b, 9, v, want)
			checkCheck(t, vName+", "+lName+", copies", twin(b), 9, slices.Clone(v), want)
		}
	}
	for _, height := range heights() {
		for _, nonce := range nonces() {
			checkCheck(t, "any numbers", Make(height, vector(2), list(2), nonce), height, vector(2), api.OK)
		}
	}
	checkCheck(t, "nil for empty", Make(1, []api.Hash{}, []string{}, 1), 1, nil, api.OK)
	checkCheck(t, "empty for nil", Make(1, nil, nil, 1), 1, []api.Hash{}, api.OK)
}

// P23.2: another height, whether above or below, or one that is equal in some of its bytes.
func TestOtherHeight(t *testing.T) {
	for _, height := range heights() {
		b := Make(height, vector(3), list(3), 1)
		for _, other := range append(heights(), height+1, height-1, height^1<<8, height^1<<16, height^1<<24, height^1<<31) {
			want := api.ErrHeight
			if other == height {
				want = api.OK
			}
			checkCheck(t, "another height", b, other, vector(3), want)
		}
	}
}

// P23.2: another vector: longer, shorter, exchanged, or with another id.
func TestOtherVector(t *testing.T) {
	for _, n := range []int{0, 1, 2, 3, 8, 9, 256, 257, 258, 300} {
		v := vector(n)
		b := Make(4, v, list(2), 1)
		for _, id := range []api.Hash{{}, {1}, {255, 255}} {
			for _, i := range []int{0, n / 2, n} {
				checkCheck(t, "a longer vector", b, 4, more(v, i, id), api.ErrRoot)
			}
		}
		for i := range min(n, 20) {
			checkCheck(t, "a shorter vector", b, 4, without(v, i), api.ErrRoot)
			checkCheck(t, "another id", b, 4, put(v, i, api.Hash{255, 255}), api.ErrRoot)
			checkCheck(t, "an id with another last bit", b, 4, put(v, i, api.Hash{v[i][0], v[i][1], 31: 1}), api.ErrRoot)
			if i > 0 {
				checkCheck(t, "exchanged ids", b, 4, exchanged(v, i, i-1), api.ErrRoot)
				checkCheck(t, "exchanged ids", b, 4, exchanged(v, i, 0), api.ErrRoot)
			}
		}
		if n > 0 {
			checkCheck(t, "a vector's beginning", b, 4, v[:n-1], api.ErrRoot)
			checkCheck(t, "no vector", b, 4, nil, api.ErrRoot)
			checkCheck(t, "the last id, twice", b, 4, append(slices.Clone(v), v[n-1]), api.ErrRoot)
		}
	}
}

// P23.2: one field of the header changed: its height and roots matter, its nonce does not.
func TestOtherHeader(t *testing.T) {
	for _, l := range [][]string{nil, {""}, list(3), list(1024)} {
		v := vector(4)
		b := Make(6, v, l, 3)
		for i := range 32 {
			for _, bit := range []byte{1, 128} {
				c := b
				c.Header.Links[i] ^= bit
				checkCheck(t, "another root of links", c, 6, v, api.ErrRoot)
				c = b
				c.Header.Txs[i] ^= bit
				checkCheck(t, "another root of transactions", c, 6, v, api.ErrRoot)
			}
		}
		c := b
		c.Header.Links, c.Header.Txs = b.Header.Txs, b.Header.Links
		checkCheck(t, "exchanged roots", c, 6, v, api.ErrRoot)
		c = b
		c.Header.Links = b.Header.Txs
		checkCheck(t, "twice the root of transactions", c, 6, v, api.ErrRoot)
		c = b
		c.Header.Txs = b.Header.Links
		checkCheck(t, "twice the root of links", c, 6, v, api.ErrRoot)
		c = b
		c.Header.Height = 7
		checkCheck(t, "another height", c, 6, v, api.ErrHeight)
		checkCheck(t, "the changed height", c, 7, v, api.OK)
		for _, nonce := range nonces() {
			c = b
			c.Header.Nonce = nonce
			checkCheck(t, "another nonce", c, 6, v, api.OK)
		}
	}
}

// P23.2: the roots of no transactions and of no vector are equal, but both must be right.
func TestOneWrongRoot(t *testing.T) {
	b := Make(0, nil, nil, 0)
	checkCheck(t, "no vector", b, 0, nil, api.OK)
	checkCheck(t, "a vector", b, 0, vector(1), api.ErrRoot)
	for _, c := range []struct {
		what       string
		links, txs api.Hash
		want       api.Errno
	}{
		{"both right", linksOf(vector(3)), txsOf(list(2)), api.OK},
		{"links wrong", linksOf(vector(2)), txsOf(list(2)), api.ErrRoot},
		{"transactions wrong", linksOf(vector(3)), txsOf(list(3)), api.ErrRoot},
		{"both wrong", linksOf(vector(2)), txsOf(list(3)), api.ErrRoot},
		{"both zero", api.Hash{}, api.Hash{}, api.ErrRoot},
		{"links zero", api.Hash{}, txsOf(list(2)), api.ErrRoot},
		{"transactions zero", linksOf(vector(3)), api.Hash{}, api.ErrRoot},
	} {
		h := api.Header{Height: 2, Links: c.links, Txs: c.txs, Nonce: 1}
		checkCheck(t, c.what, api.Block{Header: h, Txs: list(2)}, 2, vector(3), c.want)
	}
}

// P23.2: another transaction, one more, one less, or two exchanged.
func TestOtherTransactions(t *testing.T) {
	for _, n := range []int{0, 1, 2, 3, 8, 9, 1023, 1024} {
		l, v := list(n), vector(2)
		b := Make(4, v, l, 1)
		change := func(what string, other []string, want api.Errno) {
			t.Helper()
			checkCheck(t, what, api.Block{Header: b.Header, Txs: other}, 4, v, want)
		}
		longer := api.ErrRoot
		if n == 1024 {
			longer = api.ErrBig
		}
		for _, s := range []string{"", "a", of(4096)} {
			for _, i := range []int{0, n / 2, n} {
				change("one more", more(l, i, s), longer)
			}
		}
		for i := range min(n, 12) {
			change("one less", without(l, i), api.ErrRoot)
			for _, s := range []string{"", l[i] + "x", l[i] + "\x00", l[i][1:], strings.ToUpper(l[i]), of(4096)} {
				change("another one", put(l, i, s), api.ErrRoot)
			}
			change("a longer one", put(l, i, of(4097)), api.ErrBig)
			if i > 0 {
				change("exchanged", exchanged(l, i, i-1), api.ErrRoot)
				change("exchanged", exchanged(l, i, n-1), either(i == n-1, api.OK, api.ErrRoot))
				change("joined", put(without(l, i), i-1, l[i-1]+l[i]), api.ErrRoot)
			}
		}
		if n > 0 {
			change("none", nil, api.ErrRoot)
			change("the last one twice", append(slices.Clone(l), l[n-1]), longer)
		}
	}
}

// either returns one of two errors.
func either(first bool, a, b api.Errno) api.Errno {
	if first {
		return a
	}
	return b
}

// P23.2: the limits of transactions, where both roots are right.
func TestLimits(t *testing.T) {
	for n := 1022; n < 1028; n++ {
		for _, l := range [][]string{list(n), make([]string, n)} {
			b := made(3, vector(2), l, 1)
			checkCheck(t, "a number of transactions", b, 3, vector(2), either(n <= 1024, api.OK, api.ErrBig))
		}
	}
	for n := 4094; n < 4100; n++ {
		for _, l := range [][]string{{of(n)}, {"a", of(n), "b"}, {of(n), ""}, {"", of(n)}, {of(n), of(4096)}, put(list(1024), 1023, of(n))} {
			b := made(3, vector(2), l, 1)
			checkCheck(t, "a number of bytes", b, 3, vector(2), either(n <= 4096, api.OK, api.ErrBig))
		}
	}
	// A vector has no limit here.
	for _, n := range []int{256, 257, 258, 1024, 1025, 3000} {
		checkCheck(t, "a number of ids", made(3, vector(n), nil, 1), 3, vector(n), api.OK)
	}
}

// P23.2: the first error of several: the height, then the transactions, then the roots.
func TestOrder(t *testing.T) {
	v := vector(3)
	for what, l := range map[string][]string{"too many": list(1025), "too long": {"a", of(4097)}, "both": put(list(1025), 7, of(4097))} {
		b := made(3, v, l, 1)
		checkCheck(t, what, b, 3, v, api.ErrBig)
		checkCheck(t, what+", another height", b, 4, v, api.ErrHeight)
		checkCheck(t, what+", another vector", b, 3, vector(2), api.ErrBig)
		checkCheck(t, what+", another height, another vector", b, 4, vector(2), api.ErrHeight)
		b.Header.Txs = txsOf(nil)
		checkCheck(t, what+", another root", b, 3, v, api.ErrBig)
		checkCheck(t, what+", another height, another root", b, 4, v, api.ErrHeight)
		checkCheck(t, what+", two other roots", b, 3, vector(2), api.ErrBig)
		checkCheck(t, what+", another height, two other roots", b, 4, vector(2), api.ErrHeight)
		b.Header = api.Header{Height: 3}
		checkCheck(t, what+", zero roots", b, 3, v, api.ErrBig)
		checkCheck(t, what+", another height, zero roots", b, 0, v, api.ErrHeight)
	}
	b := made(3, v, list(2), 1)
	checkCheck(t, "another height, another vector", b, 4, vector(2), api.ErrHeight)
	b.Header.Txs = txsOf(nil)
	checkCheck(t, "another root", b, 3, v, api.ErrRoot)
	checkCheck(t, "another height, another root", b, 2, v, api.ErrHeight)
}

// P23.2: the zero block has no roots, and the height 0.
func TestZeroBlock(t *testing.T) {
	for _, v := range [][]api.Hash{nil, {}, vector(1), vector(257)} {
		checkCheck(t, "the zero block", api.Block{}, 0, v, api.ErrRoot)
		checkCheck(t, "the zero block", api.Block{Txs: []string{}}, 0, v, api.ErrRoot)
		checkCheck(t, "the zero block", api.Block{}, 1, v, api.ErrHeight)
		checkCheck(t, "the zero block", api.Block{}, math.MaxUint32, v, api.ErrHeight)
	}
	checkSame(t, "zero blocks", api.Block{}, api.Block{}, true)
	checkSame(t, "the zero block and another one", api.Block{}, Make(0, nil, nil, 0), false)
}

// P23.2: blocks and copies of them are the same.
func TestSame(t *testing.T) {
	for vName, v := range vectors() {
		for lName, l := range lists() {
			b := Make(5, v, l, 6)
			what := vName + ", " + lName
			checkSame(t, what, b, b, true)
			checkSame(t, what+", a copy", b, twin(b), true)
			checkSame(t, what+", made again", b, Make(5, slices.Clone(v), slices.Clone(l), 6), true)
		}
	}
	h := Make(1, nil, nil, 1).Header
	checkSame(t, "nil and empty", api.Block{Header: h}, api.Block{Header: h, Txs: []string{}}, true)
	checkSame(t, "nil and empty, zero headers", api.Block{}, api.Block{Txs: list(3)[:0]}, true)
}

// P23.2: blocks that differ in one field of the header are not the same.
func TestOtherHeadersDiffer(t *testing.T) {
	for _, l := range [][]string{nil, {""}, list(3)} {
		b := Make(5, vector(3), l, 6)
		for bit := range 64 {
			c := twin(b)
			c.Header.Nonce ^= 1 << bit
			checkSame(t, "another nonce", b, c, false)
		}
		for bit := range 32 {
			c := twin(b)
			c.Header.Height ^= 1 << bit
			checkSame(t, "another height", b, c, false)
		}
		for bit := range 256 {
			c := twin(b)
			c.Header.Links[bit/8] ^= 1 << (bit % 8)
			checkSame(t, "another root of links", b, c, false)
			c = twin(b)
			c.Header.Txs[bit/8] ^= 1 << (bit % 8)
			checkSame(t, "another root of transactions", b, c, false)
		}
		checkSame(t, "no header", b, api.Block{Txs: l}, false)
	}
}

// P23.2: blocks with one header that differ in their transactions are not the same, whichever root the header has.
func TestOtherTransactionsDiffer(t *testing.T) {
	for _, h := range []api.Header{{}, Make(5, vector(3), list(3), 6).Header} {
		with := func(l ...string) api.Block { return api.Block{Header: h, Txs: l} }
		for _, c := range []struct {
			what string
			a, b api.Block
		}{
			{"none and one", with(), with("a")},
			{"none and the empty one", with(), with("")},
			{"the empty one and two of them", with(""), with("", "")},
			{"one and another", with("a"), with("b")},
			{"one and a longer one", with("a"), with("aa")},
			{"one byte more at the end", with("a"), with("a\x00")},
			{"capital", with("a"), with("A")},
			{"one and two", with("a"), with("a", "a")},
			{"joined", with("a", "b"), with("ab")},
			{"cut elsewhere", with("ab", "c"), with("a", "bc")},
			{"exchanged", with("a", "b"), with("b", "a")},
			{"turned", with("a", "b", "c"), with("b", "c", "a")},
			{"the first one", with("a", "b", "c"), with("x", "b", "c")},
			{"the middle one", with("a", "b", "c"), with("a", "x", "c")},
			{"the last one", with("a", "b", "c"), with("a", "b", "x")},
			{"the last one is not there", with("a", "b", "c"), with("a", "b")},
			{"the first one is not there", with("a", "b", "c"), with("b", "c")},
			{"an empty one at the end", with("a", "b"), with("a", "b", "")},
			{"an empty one at the beginning", with("a", "b"), with("", "a", "b")},
			{"equal as sets", with("a", "a", "b"), with("a", "b", "b")},
			{"as long", with(of(4096)), with(of(4095) + "y")},
			{"too many, the last one", with(list(1025)...), with(put(list(1025), 1024, "")...)},
			{"too long, the last byte", with(of(4097)), with(of(4096) + "y")},
		} {
			checkSame(t, c.what, c.a, c.b, false)
			checkSame(t, c.what+", with itself", c.a, twin(c.a), true)
			checkSame(t, c.what+", with itself", c.b, twin(c.b), true)
		}
	}
}

// P23.2: Same of each two of some blocks of one or two letters in a row tells whether they are written alike.
func TestSameOfEachTwo(t *testing.T) {
	var all []api.Block
	var texts []string
	for height := range uint32(2) {
		for nonce := range uint64(2) {
			for _, l := range [][]string{nil, {""}, {"a"}, {"b"}, {"a", "b"}, {"b", "a"}, {"ab"}, {"a", ""}, {"", "a"}} {
				all = append(all, Make(height, vector(int(nonce)), l, nonce))
				texts = append(texts, strconv.Itoa(int(height))+" "+strconv.Itoa(int(nonce))+" "+strings.Join(l, ",")+strconv.Itoa(len(l)))
			}
		}
	}
	for i, a := range all {
		for k, b := range all {
			checkSame(t, texts[i]+" and "+texts[k], a, b, texts[i] == texts[k])
		}
	}
}

// P23.1, P23.2, P23.3: nothing that was passed in is changed, not even behind its end.
func TestArgumentsKept(t *testing.T) {
	for _, n := range []int{0, 1, 2, 7, 257, 1024, 1025} {
		ids, all := vector(n+5), list(n+5)
		v, l := ids[:n], all[:n]
		b := Make(3, v, l, 4)
		was := twin(b)
		for _, height := range []uint32{3, 4} {
			Check(b, height, v)
			Check(b, height, nil)
			Check(api.Block{Header: b.Header, Txs: l}, height, v)
		}
		Same(b, b)
		Same(b, api.Block{})
		Same(api.Block{Header: b.Header, Txs: l}, b)
		if !slices.Equal(ids, vector(n+5)) || !slices.Equal(all, list(n+5)) {
			t.Errorf("%d ids and transactions: changed", n)
		}
		if b.Header != was.Header || !slices.Equal(b.Txs, was.Txs) {
			t.Errorf("%d transactions: the block changed", n)
		}
	}
}

// P23.1: a block does not change with the vector and the list of which it was made, nor they with it.
func TestResultsKept(t *testing.T) {
	v, all := vector(4), list(9)
	l := all[:5]
	b := Make(3, v, l, 4)
	was := twin(b)
	again := Make(3, v, l, 4)
	clear(again.Txs)
	_ = append(again.Txs, "x")
	if !slices.Equal(all, list(9)) || !slices.Equal(b.Txs, was.Txs) {
		t.Errorf("a block's transactions share memory with the list, or with another block's")
	}
	clear(v)
	clear(l)
	checkSame(t, "an earlier block", b, was, true)
	checkCheck(t, "an earlier block", b, 3, vector(4), api.OK)
}

// P23.1, P23.2: the same arguments have the same results.
func TestRepeated(t *testing.T) {
	for n := range 40 {
		v, l := vector(n), list(40-n)
		a := Make(uint32(n), v, l, 1)
		checkCheck(t, "first", a, uint32(n), v, api.OK)
		Make(9, nil, []string{"x"}, 2)
		checkCheck(t, "another vector", a, uint32(n), vector(n+1), api.ErrRoot)
		checkCheck(t, "again", a, uint32(n), v, api.OK)
		checkSame(t, "made again", a, Make(uint32(n), v, l, 1), true)
	}
}

// randomVector returns a vector of few ids, of which some are equal.
func randomVector(r *rand.Rand) []api.Hash {
	v := make([]api.Hash, r.Intn(5))
	for i := range v {
		v[i][31] = byte(r.Intn(3))
	}
	return v
}

// randomList returns a list of few transactions, of which some are equal, and one may be too long.
func randomList(r *rand.Rand) []string {
	l := make([]string, r.Intn(5))
	for i := range l {
		l[i] = []string{"", "a", "b", "ab"}[r.Intn(4)]
		if r.Intn(30) == 0 {
			l[i] = of(4095 + r.Intn(4))
		}
	}
	return l
}

// P23.1, P23.2, P23.3: random blocks and changes, by the model.
func TestRandomBlocks(t *testing.T) {
	r := rand.New(rand.NewSource(1))
	for range 4000 {
		height, v, l, nonce := uint32(r.Intn(3)), randomVector(r), randomList(r), r.Uint64()
		checkMake(t, "a random block", height, v, l, nonce)
		b := Make(height, v, l, nonce)
		if got := Check(b, height, v); (got == api.OK) != valid(l) {
			t.Errorf("Check of what Make returned: %v", got)
		}
		c := twin(b)
		if r.Intn(3) == 0 {
			c.Txs = randomList(r)
		}
		if r.Intn(3) == 0 {
			c.Header.Txs = txsOf(randomList(r))
		}
		if r.Intn(3) == 0 {
			c.Header.Links = linksOf(randomVector(r))
		}
		other, w := uint32(r.Intn(3)), randomVector(r)
		checkCheck(t, "a random change", c, other, w, fault(c, other, w))
		checkCheck(t, "a random change", c, height, v, fault(c, height, v))
		checkSame(t, "a random change", b, c, b.Header == c.Header && strings.Join(b.Txs, ",") == strings.Join(c.Txs, ",") && len(b.Txs) == len(c.Txs))
	}
}

// P23.1, P23.2, P23.3: any numbers, ids, and transactions.
func FuzzBlock(f *testing.F) {
	f.Add(uint32(0), uint32(0), uint64(0), 0, 0, "", "")
	f.Add(uint32(1), uint32(1), uint64(1), 1, 1, "a", "b")
	f.Add(uint32(math.MaxUint32), uint32(0), uint64(math.MaxUint64), 257, 1024, "a", "a")
	f.Add(uint32(7), uint32(7), uint64(9), 258, 1025, "\xff", "")
	f.Add(uint32(7), uint32(7), uint64(9), 3, 2, of(4096), of(4097))
	f.Fuzz(func(t *testing.T, height, other uint32, nonce uint64, ids, count int, s, changed string) {
		v, l := vector((ids%300+300)%300), list((count%1100+1100)%1100)
		for i := range l {
			if i%3 == 1 {
				l[i] = s
			}
		}
		checkMake(t, "any block", height, v, l, nonce)
		b := Make(height, v, l, nonce)
		checkCheck(t, "any block", b, height, v, either(valid(l), api.OK, api.ErrBig))
		checkCheck(t, "any height", b, other, v, fault(b, other, v))
		checkCheck(t, "a longer vector", b, other, vector(len(v)+1), fault(b, other, vector(len(v)+1)))
		if len(l) == 0 {
			return
		}
		i := int(nonce % uint64(len(l)))
		c := api.Block{Header: b.Header, Txs: put(l, i, changed)}
		checkCheck(t, "a changed transaction", c, height, v, fault(c, height, v))
		checkSame(t, "a changed transaction", b, c, l[i] == changed)
	})
}
