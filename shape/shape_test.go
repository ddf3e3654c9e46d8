package shape

import (
	"math"
	"math/big"
	"math/bits"
	"math/rand"
	"slices"
	"testing"
)

// wantLeft returns the greatest power of two less than n, or 0 for n below 2, by numbers that do not wrap round.
func wantLeft(n int) int {
	if n < 2 {
		return 0
	}
	limit, power := big.NewInt(int64(n)), big.NewInt(1)
	for {
		twice := new(big.Int).Lsh(power, 1)
		if twice.Cmp(limit) >= 0 {
			return int(power.Int64())
		}
		power = twice
	}
}

// wantAll returns the Sides of all leaves of a tree, by its definition: both sides are trees, to whose paths a last step is added.
func wantAll(n int) [][]bool {
	if n < 1 {
		return nil
	}
	if n == 1 {
		return [][]bool{{}}
	}
	left := wantLeft(n)
	all := append(wantAll(left), wantAll(n-left)...)
	for i := range all {
		all[i] = append(all[i], i >= left)
	}
	return all
}

// wantOne returns the Sides of one leaf that exists, by the definition, also of trees too great to enumerate.
func wantOne(n, i int) []bool {
	if n == 1 {
		return []bool{}
	}
	left := wantLeft(n)
	if i < left {
		return append(wantOne(left, i), false)
	}
	return append(wantOne(n-left, i-left), true)
}

// checkLeft compares Left(n) with what is wanted.
func checkLeft(t *testing.T, n, want int) {
	t.Helper()
	if got := Left(n); got != want {
		t.Errorf("Left(%d) = %d, want %d", n, got, want)
	}
}

// checkLeaf compares Sides(n, i) and Depth(n, i) of a leaf that exists with what is wanted.
func checkLeaf(t *testing.T, n, i int, want []bool) {
	t.Helper()
	if got := Sides(n, i); !slices.Equal(got, want) {
		t.Errorf("Sides(%d, %d) = %v, want %v", n, i, got, want)
	}
	if got := Depth(n, i); got != len(want) {
		t.Errorf("Depth(%d, %d) = %d, want %d", n, i, got, len(want))
	}
}

// checkNoLeaf asks for what is returned where there is no such leaf.
func checkNoLeaf(t *testing.T, n, i int) {
	t.Helper()
	if got := Sides(n, i); len(got) != 0 {
		t.Errorf("Sides(%d, %d) = %v, want none", n, i, got)
	}
	if got := Depth(n, i); got != -1 {
		t.Errorf("Depth(%d, %d) = %d, want -1", n, i, got)
	}
}

// checkAny compares what is returned for any n and i with what is wanted.
func checkAny(t *testing.T, n, i int) {
	t.Helper()
	checkLeft(t, n, wantLeft(n))
	if i < 0 || i >= n {
		checkNoLeaf(t, n, i)
		return
	}
	checkLeaf(t, n, i, wantOne(n, i))
	checkBound(t, n, i)
}

// checkBound asks that the path up has at most as many steps as n - 1 has bits.
func checkBound(t *testing.T, n, i int) {
	t.Helper()
	most := bits.Len(uint(n - 1))
	if got := len(Sides(n, i)); got > most {
		t.Errorf("Sides(%d, %d) has %d steps, want at most %d", n, i, got, most)
	}
	if got := Depth(n, i); got > most {
		t.Errorf("Depth(%d, %d) = %d, want at most %d", n, i, got, most)
	}
}

// same returns a list of n equal sides.
func same(n int, right bool) []bool {
	return slices.Repeat([]bool{right}, n)
}

// P11.1: Left of small numbers, written out.
func TestLeft(t *testing.T) {
	want := []int{0, 0, 1, 2, 2, 4, 4, 4, 4, 8, 8, 8, 8, 8, 8, 8, 8, 16, 16}
	for n, left := range want {
		checkLeft(t, n, left)
	}
	checkLeft(t, 1000, 512)
	checkLeft(t, 1<<20, 1<<19)
	checkLeft(t, 1<<20+1, 1<<20)
}

// P11.1: Left of numbers below 2.
func TestLeftBelowTwo(t *testing.T) {
	for _, n := range []int{1, 0, -1, -2, -3, -4, -5, -8, -1 << 20, math.MinInt32, math.MinInt + 2, math.MinInt + 1, math.MinInt} {
		checkLeft(t, n, 0)
	}
	for n := range 1000 {
		checkLeft(t, -n, 0)
	}
}

// P11.1: Left of each power of two, and of the numbers next to it.
func TestLeftOfPowers(t *testing.T) {
	// The power itself is not less than n: the left side of a tree of as many leaves is half of it.
	for k := 2; k < bits.UintSize-1; k++ {
		power := 1 << k
		checkLeft(t, power-1, power/2)
		checkLeft(t, power, power/2)
		checkLeft(t, power+1, power)
		checkLeft(t, -power, 0)
		checkLeft(t, -power-1, 0)
		checkLeft(t, -power+1, 0)
	}
}

// P11.1: Left of the greatest numbers.
func TestLeftOfGreatest(t *testing.T) {
	half := math.MaxInt/2 + 1
	for _, n := range []int{math.MaxInt, math.MaxInt - 1, math.MaxInt - 2, half + 2, half + 1} {
		checkLeft(t, n, half)
	}
	checkLeft(t, half, half/2)
}

// P11.1: the left side is a power of two, is less than n, and its double is not.
func TestLeftByDefinition(t *testing.T) {
	for n := 2; n <= 5000; n++ {
		left := Left(n)
		if bits.OnesCount(uint(left)) != 1 || left >= n || 2*left < n {
			t.Errorf("Left(%d) = %d", n, left)
		}
		checkLeft(t, n, wantLeft(n))
	}
}

// P11.2: Sides and Depth of all leaves of small trees, written out.
func TestSmallTrees(t *testing.T) {
	const L, R = false, true
	for _, tree := range [][][]bool{
		{{}},
		{{L}, {R}},
		{{L, L}, {R, L}, {R}},
		{{L, L}, {R, L}, {L, R}, {R, R}},
		{{L, L, L}, {R, L, L}, {L, R, L}, {R, R, L}, {R}},
		{{L, L, L}, {R, L, L}, {L, R, L}, {R, R, L}, {L, R}, {R, R}},
		{{L, L, L}, {R, L, L}, {L, R, L}, {R, R, L}, {L, L, R}, {R, L, R}, {R, R}},
	} {
		n := len(tree)
		for i, want := range tree {
			checkLeaf(t, n, i, want)
		}
		checkNoLeaf(t, n, -1)
		checkNoLeaf(t, n, n)
	}
}

// P11.2: a tree of one leaf.
func TestOneLeaf(t *testing.T) {
	checkLeaf(t, 1, 0, nil)
	for _, i := range []int{-2, -1, 1, 2, 3, math.MinInt, math.MaxInt} {
		checkNoLeaf(t, 1, i)
	}
}

// P11.2: Sides and Depth of all leaves of trees up to a few hundred leaves, and of those beside them.
func TestAllLeaves(t *testing.T) {
	for n := range 300 {
		for i, want := range wantAll(n) {
			checkLeaf(t, n, i, want)
		}
		for _, i := range []int{-n - 1, -n, -2, -1, n, n + 1, n + 2, 2 * n, 2*n + 1} {
			if i < 0 || i >= n {
				checkNoLeaf(t, n, i)
			}
		}
	}
}

// P11.2: the first leaf of a tree is on the left of all, and the last one has a step to the right for each one bit of its index.
func TestFirstAndLast(t *testing.T) {
	for n := 2; n < 3000; n++ {
		checkLeaf(t, n, 0, same(bits.Len(uint(n-1)), false))
		checkLeaf(t, n, n-1, same(bits.OnesCount(uint(n-1)), true))
	}
	for k := 1; k < bits.UintSize-1; k++ {
		checkLeaf(t, 1<<k, 0, same(k, false))
		checkLeaf(t, 1<<k, 1<<k-1, same(k, true))
		checkLeaf(t, 1<<k+1, 0, same(k+1, false))
		checkLeaf(t, 1<<k+1, 1<<k, same(1, true))
	}
}

// P11.2: in a tree of a power of two leaves the steps are the bits of the index, the lowest first.
func TestFullTrees(t *testing.T) {
	r := rand.New(rand.NewSource(11))
	for k := range bits.UintSize - 1 {
		for range 50 {
			i := r.Intn(1 << k)
			want := make([]bool, k)
			for b := range want {
				want[b] = i>>b&1 == 1
			}
			checkLeaf(t, 1<<k, i, want)
		}
	}
}

// P11.2: there is no leaf below 0 or from n on, however far.
func TestNoSuchLeaf(t *testing.T) {
	for _, n := range []int{1, 2, 3, 4, 5, 7, 8, 9, 1000, 1 << 20, math.MaxInt - 1, math.MaxInt} {
		for _, i := range []int{-1, -2, -3, -n, -n + 1, -n - 1, math.MinInt, math.MinInt + 1} {
			if i < 0 {
				checkNoLeaf(t, n, i)
			}
		}
		checkNoLeaf(t, n, n)
		checkNoLeaf(t, n, math.MaxInt)
		if n < math.MaxInt-1 {
			checkNoLeaf(t, n, n+1)
			checkNoLeaf(t, n, n+2)
		}
	}
}

// P11.2: a tree of 0 leaves, or fewer, has none.
func TestNoLeaves(t *testing.T) {
	for _, n := range []int{0, -1, -2, -3, -5, -8, -1 << 20, math.MinInt + 1, math.MinInt} {
		for _, i := range []int{0, 1, -1, 2, -2, n, n + 1, n - 1, -n, math.MaxInt, math.MinInt} {
			checkNoLeaf(t, n, i)
		}
	}
}

// P11.2 and P11.3: trees as great as an int allows.
func TestGreatestTrees(t *testing.T) {
	size := bits.UintSize - 1
	checkLeaf(t, math.MaxInt, 0, same(size, false))
	checkLeaf(t, math.MaxInt, 1, append([]bool{true}, same(size-1, false)...))
	// The last index has all bits but the lowest.
	checkLeaf(t, math.MaxInt, math.MaxInt-1, same(size-1, true))
	checkLeaf(t, math.MaxInt, math.MaxInt-2, append(same(1, true), append([]bool{false}, same(size-2, true)...)...))
	checkLeaf(t, math.MaxInt-1, math.MaxInt-2, append([]bool{true}, same(size-2, true)...))
	half := math.MaxInt/2 + 1
	for _, n := range []int{math.MaxInt, math.MaxInt - 1, math.MaxInt - 2, half + 1, half, half - 1} {
		for _, i := range []int{0, 1, 2, n/2 - 1, n / 2, n/2 + 1, half - 2, half - 1, half, half + 1, n - 3, n - 2, n - 1, n} {
			checkAny(t, n, i)
		}
	}
}

// P11.3: the leaves of a tree have different Sides, none of more steps than n - 1 has bits, and the first one has as many.
func TestPathsDiffer(t *testing.T) {
	for n := 1; n <= 400; n++ {
		seen := map[string]int{}
		for i := range n {
			key := ""
			for _, right := range Sides(n, i) {
				if right {
					key += "R"
				} else {
					key += "L"
				}
			}
			if other, is := seen[key]; is {
				t.Errorf("leaves %d and %d of %d have the sides %q", other, i, n, key)
			}
			seen[key] = i
			checkBound(t, n, i)
		}
		if len(seen) != n {
			t.Errorf("%d different paths of %d leaves", len(seen), n)
		}
		if got, want := Depth(n, 0), bits.Len(uint(n-1)); got != want {
			t.Errorf("Depth(%d, 0) = %d, want %d", n, got, want)
		}
	}
}

// P11.3: no path of a leaf is the upper part of another one's, so that the way down from the top ends at one leaf.
func TestNoPathWithinAnother(t *testing.T) {
	for n := 2; n <= 60; n++ {
		for i := range n {
			for k := range n {
				a, b := Sides(n, i), Sides(n, k)
				if i != k && len(a) <= len(b) && slices.Equal(a, b[len(b)-len(a):]) {
					t.Errorf("the path of leaf %d of %d ends that of leaf %d", i, n, k)
				}
			}
		}
	}
}

// P11.1, P11.2 and P11.3: trees and leaves of any size.
func TestAnySize(t *testing.T) {
	r := rand.New(rand.NewSource(11))
	for range 5000 {
		n := int(r.Uint64() >> r.Intn(64))
		i := int(r.Uint64() >> r.Intn(64))
		checkAny(t, n, i)
		if n > 0 {
			checkAny(t, n, r.Intn(n))
		}
	}
}

// P11.2: what a caller holds is not changed by later calls, and writing to it changes no later result.
func TestResultsAreNew(t *testing.T) {
	first := Sides(7, 5)
	second := Sides(7, 5)
	Sides(7, 0)
	for i := range first {
		first[i] = !first[i]
	}
	want := []bool{true, false, true}
	if !slices.Equal(second, want) {
		t.Errorf("a list that was returned became %v, want %v", second, want)
	}
	checkLeaf(t, 7, 5, want)
}

// The path down may be left after any step.
func TestDownMayBeLeft(t *testing.T) {
	for most := 1; most <= 3; most++ {
		var got []bool
		for right := range down(7, 5) {
			got = append(got, right)
			if len(got) == most {
				break
			}
		}
		if want := []bool{true, false, true}[:most]; !slices.Equal(got, want) {
			t.Errorf("the first %d steps down = %v, want %v", most, got, want)
		}
	}
	// It starts at the top each time.
	path := down(5, 1)
	for range 2 {
		var got []bool
		for right := range path {
			got = append(got, right)
		}
		if want := []bool{false, false, true}; !slices.Equal(got, want) {
			t.Errorf("the path down = %v, want %v", got, want)
		}
	}
}

// The chapter's examples.
func TestExamples(t *testing.T) {
	checkLeft(t, 5, 4)
	checkLeaf(t, 5, 4, []bool{true})
	checkLeaf(t, 5, 1, []bool{true, false, false})
}

// P11.1, P11.2 and P11.3, for whatever numbers.
func FuzzShape(f *testing.F) {
	for _, c := range [][2]int{{0, 0}, {1, 0}, {5, 1}, {5, 4}, {3, 3}, {-1, -2}, {math.MaxInt, math.MaxInt - 1}, {math.MinInt, 0}, {math.MaxInt, math.MinInt}} {
		f.Add(c[0], c[1])
	}
	f.Fuzz(func(t *testing.T, n, i int) { checkAny(t, n, i) })
}
