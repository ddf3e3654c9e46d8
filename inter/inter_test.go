package inter

import (
	"encoding/binary"
	"math"
	"math/rand"
	"slices"
	"testing"

	"milepost/api"
)

// some returns the hash of a number; different numbers have different hashes, none of them the zero hash.
func some(n int) api.Hash {
	h := api.Hash{0: 1, 31: 255}
	binary.BigEndian.PutUint64(h[8:], uint64(n))
	return h
}

// vector returns a vector of some different entries.
func vector(count int) []api.Hash {
	var v []api.Hash
	for i := range count {
		v = append(v, some(1000+i))
	}
	return v
}

// bounded returns a level as Next counts it.
func bounded(level int) int {
	if level < 0 {
		return 0
	}
	if level > 255 {
		return 255
	}
	return level
}

// nextOf returns what P20.1 says of Next, entry by entry.
func nextOf(v []api.Hash, id api.Hash, level int) []api.Hash {
	if len(v) == 0 {
		return nil
	}
	level = bounded(level)
	count := len(v)
	if level+2 > count {
		count = level + 2
	}
	var l []api.Hash
	for i := 0; i < count; i++ {
		switch {
		case i == count-1:
			l = append(l, v[len(v)-1])
		case i <= level:
			l = append(l, id)
		default:
			l = append(l, v[i])
		}
	}
	return l
}

// entryOf returns what P20.2 says of Entry.
func entryOf(v []api.Hash, level int) (api.Hash, bool) {
	if len(v) == 0 || level < 0 {
		return api.Hash{}, false
	}
	for i, h := range v {
		if i == level {
			return h, true
		}
	}
	return v[len(v)-1], true
}

// placed is a block of a chain: its id and its level.
type placed struct {
	id    api.Hash
	level int
}

// vectorOf returns the interlink vector after some blocks as the chapter defines it: it looks for the last block of every level.
func vectorOf(genesis api.Hash, blocks []placed) []api.Hash {
	var v []api.Hash
	for level := 0; level <= 256; level++ {
		last := genesis
		for _, b := range blocks {
			if b.level >= level {
				last = b.id
			}
		}
		v = append(v, last)
		if last == genesis {
			break
		}
	}
	return v
}

// levels are all levels and ones beyond both ends.
func levels() []int {
	l := []int{
		math.MinInt, math.MinInt + 1, math.MinInt32 - 1, math.MinInt32, -1 << 16, -258, -257, -256, -255, -3, -2, -1,
		259, 260, 511, 512, 1000, 1 << 16, math.MaxInt32 - 1, math.MaxInt32, math.MaxInt32 + 1, 1 << 32, 1<<32 + 1, math.MaxInt - 2, math.MaxInt - 1, math.MaxInt,
	}
	for n := range 259 {
		l = append(l, n)
	}
	return l
}

// counts are numbers of entries: few, around MaxLinks, and more.
func counts() []int { return []int{0, 1, 2, 3, 4, 5, 8, 100, 254, 255, 256, 257, 258, 259, 300, 600} }

// someLevel returns a level, mostly a low one.
func someLevel(r *rand.Rand) int {
	level := 0
	for r.Intn(2) == 0 {
		level++
	}
	if r.Intn(20) == 0 {
		level = r.Intn(256)
	}
	return level
}

// P20.1: the vector after the genesis block.
func TestFirst(t *testing.T) {
	for _, genesis := range []api.Hash{some(1), some(2), {}, {1}, {31: 1}} {
		v := First(genesis)
		if len(v) != 1 || v[0] != genesis {
			t.Errorf("%v: %v", genesis, v)
		}
	}
}

// P20.1: Next, written out.
func TestNextWritten(t *testing.T) {
	a, b, c, g, x := some(1), some(2), some(3), some(4), some(5)
	for _, k := range []struct {
		what  string
		v     []api.Hash
		level int
		want  []api.Hash
	}{
		{"a chapter's example", []api.Hash{g}, 0, []api.Hash{x, g}},
		{"the other example", []api.Hash{g}, 2, []api.Hash{x, x, x, g}},
		{"one entry, level 1", []api.Hash{g}, 1, []api.Hash{x, x, g}},
		{"one entry, level -1", []api.Hash{g}, -1, []api.Hash{x, g}},
		{"one entry, the least level", []api.Hash{g}, math.MinInt, []api.Hash{x, g}},
		{"two entries, level 0", []api.Hash{a, g}, 0, []api.Hash{x, g}},
		{"two entries, level 1", []api.Hash{a, g}, 1, []api.Hash{x, x, g}},
		{"two entries, level 2", []api.Hash{a, g}, 2, []api.Hash{x, x, x, g}},
		{"four entries, level -1", []api.Hash{a, b, c, g}, -1, []api.Hash{x, b, c, g}},
		{"four entries, level 0", []api.Hash{a, b, c, g}, 0, []api.Hash{x, b, c, g}},
		{"four entries, level 1", []api.Hash{a, b, c, g}, 1, []api.Hash{x, x, c, g}},
		{"four entries, one below the last index", []api.Hash{a, b, c, g}, 2, []api.Hash{x, x, x, g}},
		{"four entries, the last index", []api.Hash{a, b, c, g}, 3, []api.Hash{x, x, x, x, g}},
		{"four entries, one above the last index", []api.Hash{a, b, c, g}, 4, []api.Hash{x, x, x, x, x, g}},
		{"equal entries", []api.Hash{g, g, g}, 0, []api.Hash{x, g, g}},
		{"an id that is there", []api.Hash{a, b, g}, 0, []api.Hash{x, b, g}},
		{"the zero hash ends it", []api.Hash{a, {}}, 1, []api.Hash{x, x, {}}},
		{"nil", nil, 0, nil},
		{"nil, level -1", nil, -1, nil},
		{"nil, level 255", nil, 255, nil},
		{"empty", []api.Hash{}, 0, nil},
		{"empty, level 3", []api.Hash{}, 3, nil},
		{"empty, the greatest level", []api.Hash{}, math.MaxInt, nil},
		{"empty, the least level", []api.Hash{}, math.MinInt, nil},
	} {
		if got := Next(k.v, x, k.level); !slices.Equal(got, k.want) {
			t.Errorf("%s: %v", k.what, got)
		}
	}
}

// P20.1: the highest levels, of vectors around MaxLinks entries.
func TestNextHighest(t *testing.T) {
	x := some(5)
	for _, c := range []struct{ count, level, length, ids int }{
		{1, 253, 255, 254}, {1, 254, 256, 255}, {1, 255, 257, 256}, {1, 256, 257, 256}, {1, 257, 257, 256}, {1, math.MaxInt, 257, 256},
		{256, 253, 256, 254}, {256, 254, 256, 255}, {256, 255, 257, 256}, {256, 256, 257, 256}, {256, math.MaxInt, 257, 256},
		{257, 0, 257, 1}, {257, 254, 257, 255}, {257, 255, 257, 256}, {257, 256, 257, 256}, {257, math.MaxInt, 257, 256}, {257, math.MinInt, 257, 1},
		{258, 254, 258, 255}, {258, 255, 258, 256}, {258, 256, 258, 256}, {258, 257, 258, 256}, {258, math.MaxInt, 258, 256},
		{600, 255, 600, 256}, {600, 256, 600, 256}, {600, 599, 600, 256}, {600, math.MaxInt - 1, 600, 256}, {600, -1, 600, 1},
	} {
		v := vector(c.count)
		got := Next(v, x, c.level)
		if len(got) != c.length {
			t.Errorf("%v: %d entries", c, len(got))
			continue
		}
		for i, h := range got[:len(got)-1] {
			if i < c.ids && h != x || i >= c.ids && h != v[i] {
				t.Errorf("%v: entry %d is %v", c, i, h)
			}
		}
		if got[len(got)-1] != v[len(v)-1] {
			t.Errorf("%v: the last entry is %v", c, got[len(got)-1])
		}
	}
}

// P20.1: vectors of all lengths at all levels, by the promise's words.
func TestNextAll(t *testing.T) {
	for _, count := range counts() {
		v := vector(count)
		for _, level := range levels() {
			for _, id := range []api.Hash{some(1), {}, some(1000), some(1000 + count - 1)} {
				if got, want := Next(v, id, level), nextOf(v, id, level); !slices.Equal(got, want) {
					t.Errorf("%d entries, level %d, id %v: %v, not %v", count, level, id, got, want)
				}
			}
		}
	}
}

// P20.1: a level beyond the ends counts as the one at the end.
func TestNextBeyond(t *testing.T) {
	id := some(1)
	for _, count := range counts() {
		v := vector(count)
		for _, level := range []int{-1, -2, -255, -256, math.MinInt32, math.MinInt + 1, math.MinInt} {
			if got := Next(v, id, level); !slices.Equal(got, Next(v, id, 0)) {
				t.Errorf("%d entries, level %d: %v", count, level, got)
			}
		}
		for _, level := range []int{256, 257, 258, 1000, math.MaxInt32, math.MaxInt - 1, math.MaxInt} {
			if got := Next(v, id, level); !slices.Equal(got, Next(v, id, api.MaxLevel)) {
				t.Errorf("%d entries, level %d: %v", count, level, got)
			}
		}
	}
}

// P20.2: Entry, written out.
func TestEntryWritten(t *testing.T) {
	a, b, g := some(1), some(2), some(3)
	for _, c := range []struct {
		what  string
		v     []api.Hash
		level int
		want  api.Hash
		is    bool
	}{
		{"nil", nil, 0, api.Hash{}, false},
		{"nil, level -1", nil, -1, api.Hash{}, false},
		{"nil, level 1", nil, 1, api.Hash{}, false},
		{"nil, the least level", nil, math.MinInt, api.Hash{}, false},
		{"nil, the greatest level", nil, math.MaxInt, api.Hash{}, false},
		{"empty", []api.Hash{}, 0, api.Hash{}, false},
		{"empty, level -1", []api.Hash{}, -1, api.Hash{}, false},
		{"empty, level 255", []api.Hash{}, 255, api.Hash{}, false},
		{"empty, the greatest level", []api.Hash{}, math.MaxInt, api.Hash{}, false},
		{"one entry", []api.Hash{g}, 0, g, true},
		{"one entry, one above", []api.Hash{g}, 1, g, true},
		{"one entry, level 255", []api.Hash{g}, 255, g, true},
		{"one entry, the greatest level", []api.Hash{g}, math.MaxInt, g, true},
		{"one entry, level -1", []api.Hash{g}, -1, api.Hash{}, false},
		{"one entry, the least level", []api.Hash{g}, math.MinInt, api.Hash{}, false},
		{"three entries, level 0", []api.Hash{a, b, g}, 0, a, true},
		{"three entries, level 1", []api.Hash{a, b, g}, 1, b, true},
		{"three entries, the last index", []api.Hash{a, b, g}, 2, g, true},
		{"three entries, one above", []api.Hash{a, b, g}, 3, g, true},
		{"three entries, level 256", []api.Hash{a, b, g}, 256, g, true},
		{"three entries, the greatest level", []api.Hash{a, b, g}, math.MaxInt, g, true},
		{"three entries, level -1", []api.Hash{a, b, g}, -1, api.Hash{}, false},
		{"three entries, the least level", []api.Hash{a, b, g}, math.MinInt, api.Hash{}, false},
		{"the zero hash", []api.Hash{{}}, 0, api.Hash{}, true},
		{"the zero hash at the end", []api.Hash{a, {}}, 5, api.Hash{}, true},
	} {
		if got, is := Entry(c.v, c.level); got != c.want || is != c.is {
			t.Errorf("%s: %v, %v", c.what, got, is)
		}
	}
}

// P20.2: vectors of all lengths at all levels, by the promise's words; there is no limit to the levels.
func TestEntryAll(t *testing.T) {
	for _, count := range counts() {
		v := vector(count)
		for _, level := range append(levels(), 598, 599, 600, 601) {
			got, is := Entry(v, level)
			want, there := entryOf(v, level)
			if got != want || is != there {
				t.Errorf("%d entries, level %d: %v, %v", count, level, got, is)
			}
		}
	}
}

// P20.1, P20.2, P20.3: one vector, one entry after another, as the definition says.
func TestChains(t *testing.T) {
	for seed := range int64(60) {
		r := rand.New(rand.NewSource(seed))
		genesis := some(0)
		v := First(genesis)
		var blocks []placed
		for n := range 80 {
			b := placed{some(1 + n), someLevel(r)}
			blocks = append(blocks, b)
			next := Next(v, b.id, b.level)
			if want := vectorOf(genesis, blocks); !slices.Equal(next, want) {
				t.Fatalf("seed %d, block %d of level %d: %v, not %v", seed, n, b.level, next, want)
			}
			if len(next) < len(v) || len(next) > api.MaxLinks || next[len(next)-1] != genesis {
				t.Fatalf("seed %d, block %d of level %d: %d entries after %d, last %v", seed, n, b.level, len(next), len(v), next[len(next)-1])
			}
			v = next
		}
	}
}

// P20.3: blocks of all levels, down, up and beyond both ends: at most MaxLinks entries, and never fewer.
func TestAllLevels(t *testing.T) {
	up := levels()
	slices.Sort(up)
	down := slices.Clone(up)
	slices.Reverse(down)
	mixed := slices.Clone(up)
	rand.New(rand.NewSource(1)).Shuffle(len(mixed), func(i, k int) { mixed[i], mixed[k] = mixed[k], mixed[i] })
	for _, c := range []struct {
		name string
		all  []int
	}{{"up", up}, {"down", down}, {"mixed", mixed}} {
		genesis := some(0)
		v := First(genesis)
		var blocks []placed
		for n, level := range c.all {
			next := Next(v, some(1+n), level)
			blocks = append(blocks, placed{some(1 + n), bounded(level)})
			if len(next) < len(v) || len(next) > api.MaxLinks {
				t.Fatalf("%s, level %d: %d entries after %d", c.name, level, len(next), len(v))
			}
			if want := vectorOf(genesis, blocks); !slices.Equal(next, want) {
				t.Fatalf("%s, level %d: %v, not %v", c.name, level, next, want)
			}
			v = next
		}
		if len(v) != api.MaxLinks {
			t.Errorf("%s: %d entries in the end", c.name, len(v))
		}
	}
}

// P20.3: for any vector, Next never shortens it, and changes the entry of no level above the block's.
func TestKeptAbove(t *testing.T) {
	id := some(1)
	for _, count := range counts()[1:] {
		v := vector(count)
		for _, level := range levels() {
			next := Next(v, id, level)
			if len(next) < len(v) {
				t.Errorf("%d entries, level %d: %d entries", count, level, len(next))
			}
			for above := bounded(level) + 1; above <= 602; above++ {
				was, _ := Entry(v, above)
				if got, is := Entry(next, above); got != was || !is {
					t.Errorf("%d entries, level %d: entry %d is %v, not %v", count, level, above, got, was)
				}
			}
			for below := range bounded(level) + 1 {
				if got, is := Entry(next, below); got != id || !is {
					t.Errorf("%d entries, level %d: entry %d is %v", count, level, below, got)
				}
			}
		}
	}
}

// P20.1: nothing that was passed in is changed, not even behind its end.
func TestArgumentsKept(t *testing.T) {
	for _, count := range counts() {
		for _, level := range []int{math.MinInt, -1, 0, 1, count - 2, count - 1, count, 254, 255, 256, math.MaxInt} {
			whole := append(vector(count), vector(300)...)
			was := slices.Clone(whole)
			next := Next(whole[:count], some(1), level)
			Entry(whole[:count], level)
			if !slices.Equal(whole, was) {
				t.Errorf("%d entries, level %d: the vector changed", count, level)
			}
			for i := range next {
				next[i] = api.Hash{}
			}
			if !slices.Equal(whole, was) {
				t.Errorf("%d entries, level %d: the result shares memory with the vector", count, level)
			}
		}
	}
}

// P20.1: a vector that was returned does not change with a later call, nor with what was passed in.
func TestResultsKept(t *testing.T) {
	r := rand.New(rand.NewSource(2))
	vectors := [][]api.Hash{First(some(0))}
	var were [][]api.Hash
	for n := range 200 {
		last := vectors[len(vectors)-1]
		were = append(were, slices.Clone(last))
		// Two blocks after the same one: the second one's vector must not spoil the first one's.
		vectors = append(vectors, Next(last, some(1+n), someLevel(r)))
		Next(last, some(10000+n), someLevel(r))
	}
	for i, was := range were {
		if !slices.Equal(vectors[i], was) {
			t.Errorf("vector %d changed to %v", i, vectors[i])
		}
	}
	v := vector(5)
	next := Next(v, some(1), 1)
	want := slices.Clone(next)
	clear(v)
	if !slices.Equal(next, want) {
		t.Errorf("the result changed with the argument: %v", next)
	}
}

// P20.1: two first vectors are two lists.
func TestFirstIsNew(t *testing.T) {
	a, b := First(some(1)), First(some(1))
	a[0] = api.Hash{}
	if b[0] != some(1) || First(some(1))[0] != some(1) {
		t.Error("first vectors share memory")
	}
}

// P20.1, P20.2, P20.3: any vector, id and level.
func FuzzInter(f *testing.F) {
	f.Add(0, 0, 0)
	f.Add(1, 0, 5)
	f.Add(4, 3, -1)
	f.Add(257, 255, 257)
	f.Add(258, math.MaxInt, math.MaxInt)
	f.Add(3, math.MinInt, math.MinInt)
	f.Fuzz(func(t *testing.T, count, level, other int) {
		v := vector(count % 700)
		id := some(other)
		next := Next(v, id, level)
		if want := nextOf(v, id, level); !slices.Equal(next, want) {
			t.Errorf("%d entries, level %d: %v, not %v", len(v), level, next, want)
		}
		got, is := Entry(next, other)
		if want, there := entryOf(next, other); got != want || is != there {
			t.Errorf("%d entries, level %d: %v, %v", len(next), other, got, is)
		}
	})
}
