package ratio

import (
	"math"
	"math/big"
	"math/rand"
	"testing"

	"milepost/api"
	"milepost/large"
)

const (
	most     = math.MaxUint32
	mostLimb = math.MaxUint64
)

// delta is a divided by b.
type delta struct{ a, b int }

// someInts are the edges of a, b and up, and some others.
func someInts() []int {
	return []int{
		math.MinInt, math.MinInt + 1, math.MinInt32, -65537, -65536, -256, -255, -2, -1, 0, 1, 2, 3, 254, 255, 256, 257, 32768, 65534, 65535, 65536, 65537, 65538,
		math.MaxInt32, math.MaxUint32, math.MaxUint32 + 1, math.MaxUint32 + 2, 1<<32 + 3, 1<<32 + 65536, math.MaxInt - 1, math.MaxInt,
	}
}

// validDeltas are valid ones, at the edges and between.
func validDeltas() []delta {
	return []delta{
		{1, 2}, {1, 3}, {2, 3}, {1, 4}, {2, 4}, {3, 4}, {3, 7}, {1, 10}, {9, 10}, {1, 65535}, {65534, 65535},
		{1, 65536}, {2, 65536}, {32767, 65536}, {32768, 65536}, {32769, 65536}, {65534, 65536}, {65535, 65536},
	}
}

// wrongDeltas are ones that are not valid.
func wrongDeltas() []delta {
	return []delta{
		{-1, 2}, {0, 2}, {2, 2}, {3, 2}, {0, 0}, {0, 1}, {1, 0}, {1, 1}, {1, -1}, {-1, -1}, {-2, -1}, {-1, 0}, {-1, 1},
		{0, 65536}, {-1, 65536}, {65536, 65536}, {65537, 65536}, {0, 65537}, {1, 65537}, {65536, 65537}, {65537, 65537},
		{1, math.MaxInt}, {math.MaxInt - 1, math.MaxInt}, {math.MaxInt, math.MaxInt}, {math.MaxInt, 2}, {math.MaxInt, math.MinInt},
		{math.MinInt, 2}, {math.MinInt, math.MaxInt}, {math.MinInt, math.MinInt}, {math.MinInt, math.MinInt + 1}, {math.MinInt, 0}, {1, math.MinInt},
		{1, 1<<32 + 2}, {1<<32 + 1, 1<<32 + 2}, {1 - 1<<32, 2},
	}
}

// validUps are the ups at the edges, and some others.
func validUps() []int {
	return []int{0, 1, 2, 15, 16, 31, 32, 33, 63, 64, 65, 128, 191, 192, 193, 254, 255}
}

// wrongUps are ones that are not between 0 and MaxLevel.
func wrongUps() []int {
	return []int{math.MinInt, math.MinInt + 1, -1 << 32, -256, -255, -64, -2, -1, 256, 257, 319, 320, 1 << 16, 1 << 32, 1<<32 + 1, math.MaxInt - 1, math.MaxInt}
}

// counts are the edges of n, of and Product's b, and some others.
func counts() []uint32 {
	return []uint32{0, 1, 2, 3, 5, 10, 1023, 1024, 65534, 65535, 65536, 65537, 1<<31 - 1, 1 << 31, 1<<31 + 1, most - 1, most}
}

// wantProduct returns n * b * 2^up by the library, limb by limb.
func wantProduct(n, b uint32, up int) large.N {
	z := new(big.Int).Mul(big.NewInt(int64(n)), big.NewInt(int64(b)))
	z.Lsh(z, uint(up))
	limb := new(big.Int).SetUint64(mostLimb)
	var x large.N
	for i := range x {
		x[i] = new(big.Int).And(z, limb).Uint64()
		z.Rsh(z, 64)
	}
	return x
}

// wantOrder compares n * 2^up with (1 - delta) * of, by the library's fractions.
func wantOrder(n, of uint32, up int, d delta) int {
	left := new(big.Rat).SetInt(new(big.Int).Lsh(big.NewInt(int64(n)), uint(up)))
	right := new(big.Rat).Sub(big.NewRat(1, 1), big.NewRat(int64(d.a), int64(d.b)))
	right.Mul(right, new(big.Rat).SetInt64(int64(of)))
	return left.Cmp(right)
}

// checkOrder checks Above and Least, by how the two sides compare.
func checkOrder(t *testing.T, n, of uint32, up int, d delta, order int) {
	t.Helper()
	if got := Above(n, of, up, d.a, d.b); got != (order > 0) {
		t.Fatalf("Above(%d, %d, %d, %d, %d) = %v, want %v", n, of, up, d.a, d.b, got, order > 0)
	}
	if got := Least(n, of, up, d.a, d.b); got != (order >= 0) {
		t.Fatalf("Least(%d, %d, %d, %d, %d) = %v, want %v", n, of, up, d.a, d.b, got, order >= 0)
	}
}

// checkNeither checks that Above and Least are both false.
func checkNeither(t *testing.T, n, of uint32, up int, d delta) {
	t.Helper()
	checkOrder(t, n, of, up, d, -1)
}

// P6.1: the edges of a valid delta, one by one.
func TestMayWrittenOut(t *testing.T) {
	for _, d := range validDeltas() {
		if !May(d.a, d.b) {
			t.Errorf("May(%d, %d) = false", d.a, d.b)
		}
	}
	for _, d := range wrongDeltas() {
		if May(d.a, d.b) {
			t.Errorf("May(%d, %d) = true", d.a, d.b)
		}
	}
}

// P6.1: every pair of edges, and a around each b.
func TestMayPairs(t *testing.T) {
	for _, b := range someInts() {
		for _, a := range append(someInts(), b-1, b, b+1) {
			positive, less, small := a >= 1, a < b, b <= 65536
			if got, want := May(a, b), positive && less && small; got != want {
				t.Errorf("May(%d, %d) = %v, want %v", a, b, got, want)
			}
		}
	}
}

// P6.1: for every b the valid ones are 1 to b - 1, and none beyond MaxDelta.
func TestMayEveryDenominator(t *testing.T) {
	for b := -3; b <= api.MaxDelta+3; b++ {
		room := b >= 2 && b <= api.MaxDelta
		if May(-1, b) || May(0, b) || May(b, b) || May(b+1, b) {
			t.Fatalf("May is true for b %d and an a at or beyond its edges", b)
		}
		if May(1, b) != room || May(b-1, b) != room {
			t.Fatalf("May(1, %d) = %v, May(%d, %d) = %v, want %v", b, May(1, b), b-1, b, May(b-1, b), room)
		}
	}
}

// P6.1: products of the edges with every up.
func TestProduct(t *testing.T) {
	for _, n := range counts() {
		for _, b := range counts() {
			for up := range api.MaxLevel + 1 {
				checkProduct(t, n, b, up)
			}
		}
	}
	r := rand.New(rand.NewSource(6))
	for range 5000 {
		checkProduct(t, r.Uint32()>>r.Intn(32), r.Uint32()>>r.Intn(32), r.Intn(256))
	}
}

// checkProduct checks Product against the library.
func checkProduct(t *testing.T, n, b uint32, up int) {
	t.Helper()
	want := wantProduct(n, b, up)
	if got, is := Product(n, b, up); got != want || !is {
		t.Fatalf("Product(%d, %d, %d) = %x, %v, want %x, true", n, b, up, got, is, want)
	}
}

// P6.1: products written out, the greatest ones among them.
func TestProductWrittenOut(t *testing.T) {
	cases := []struct {
		n, b uint32
		up   int
		want large.N
	}{
		{0, 0, 0, large.N{}}, {0, most, 255, large.N{}}, {most, 0, 255, large.N{}},
		{1, 1, 0, large.N{1}}, {1, 1, 1, large.N{2}}, {6, 7, 0, large.N{42}}, {6, 7, 2, large.N{168}},
		{1, 1, 63, large.N{1 << 63}}, {1, 1, 64, large.N{0, 1}}, {1, 1, 255, large.N{0, 0, 0, 1 << 63}}, {1, 2, 255, large.N{0, 0, 0, 0, 1}},
		{most, 1, 0, large.N{most}}, {1, most, 0, large.N{most}}, {most, 2, 0, large.N{1<<33 - 2}},
		{most, most, 0, large.N{0xfffffffe00000001}},
		{most, most, 1, large.N{0xfffffffc00000002, 1}},
		{most, most, 64, large.N{0, 0xfffffffe00000001}},
		{most, most, 254, large.N{0, 0, 0, 1 << 62, 0x3fffffff80000000}},
		{most, most, 255, large.N{0, 0, 0, 1 << 63, 0x7fffffff00000000}},
	}
	for _, c := range cases {
		if got, is := Product(c.n, c.b, c.up); got != c.want || !is {
			t.Errorf("Product(%d, %d, %d) = %x, %v, want %x, true", c.n, c.b, c.up, got, is, c.want)
		}
	}
}

// P6.1: no product beyond the edges of up, not even one that would be 0 or representable.
func TestProductWrongUp(t *testing.T) {
	for _, up := range wrongUps() {
		for _, n := range counts() {
			for _, b := range counts() {
				if got, is := Product(n, b, up); got != (large.N{}) || is {
					t.Fatalf("Product(%d, %d, %d) = %x, %v, want 0, false", n, b, up, got, is)
				}
			}
		}
	}
}

// P6.2: both sides equal, and one more and one less on each side, written out.
func TestOrderWrittenOut(t *testing.T) {
	cases := []struct {
		n, of uint32
		up    int
		d     delta
		order int
	}{
		{0, 0, 0, delta{1, 2}, 0}, {0, 0, 255, delta{65535, 65536}, 0}, {1, 0, 0, delta{1, 2}, 1}, {0, 1, 0, delta{1, 2}, -1}, {0, 1, 255, delta{65535, 65536}, -1},
		{1, 2, 0, delta{1, 2}, 0}, {2, 2, 0, delta{1, 2}, 1}, {0, 2, 0, delta{1, 2}, -1}, {1, 1, 0, delta{1, 2}, 1}, {1, 3, 0, delta{1, 2}, -1},
		{1, 4, 1, delta{1, 2}, 0}, {1, 3, 1, delta{1, 2}, 1}, {1, 5, 1, delta{1, 2}, -1},
		{2, 3, 0, delta{1, 3}, 0}, {1, 3, 0, delta{1, 3}, -1}, {3, 3, 0, delta{1, 3}, 1}, {2, 2, 0, delta{1, 3}, 1}, {2, 4, 0, delta{1, 3}, -1},
		{1, 3, 0, delta{2, 3}, 0}, {1, 2, 0, delta{2, 3}, 1}, {1, 4, 0, delta{2, 3}, -1},
		{1, 1, 0, delta{1, 3}, 1}, {1, 2, 0, delta{1, 3}, -1},
		{65535, 65536, 0, delta{1, 65536}, 0}, {65534, 65535, 0, delta{1, 65536}, -1}, {1, 1, 0, delta{1, 65536}, 1}, {65535, 65535, 0, delta{1, 65536}, 1}, {65535, 65537, 0, delta{1, 65536}, -1},
		{1, 65536, 0, delta{65535, 65536}, 0}, {1, 65535, 0, delta{65535, 65536}, 1}, {1, 65537, 0, delta{65535, 65536}, -1},
		{1, 1 << 31, 15, delta{65535, 65536}, 0}, {1, 1<<31 - 1, 15, delta{65535, 65536}, 1}, {1, 1<<31 + 1, 15, delta{65535, 65536}, -1},
		{1 << 31, most, 0, delta{1, 2}, 1}, {1<<31 - 1, most, 0, delta{1, 2}, -1}, {1<<31 - 1, most - 1, 0, delta{1, 2}, 0},
		{1, most, 31, delta{1, 2}, 1}, {1, most, 30, delta{1, 2}, -1}, {1, most, 32, delta{1, 65536}, 1}, {1, most, 31, delta{1, 65536}, -1},
		{most, most, 0, delta{1, 65536}, 1}, {most, most, 255, delta{1, 65536}, 1}, {most, 0, 255, delta{65535, 65536}, 1}, {1, most, 255, delta{1, 65536}, 1}, {0, most, 255, delta{1, 65536}, -1},
	}
	for _, c := range cases {
		checkOrder(t, c.n, c.of, c.up, c.d, c.order)
	}
}

// P6.2: both sides made equal for many deltas and ups, and one more and one less on each.
func TestOrderAroundEqual(t *testing.T) {
	for _, d := range validDeltas() {
		for up := range 32 {
			of := uint64(d.b) << up
			n := uint64(d.b - d.a)
			for _, times := range []uint64{1, 2, 7, 255, 65535, most / of} {
				if times == 0 || times*of > most {
					continue
				}
				checkAroundEqual(t, uint32(times*n), uint32(times*of), up, d)
			}
		}
	}
}

// checkAroundEqual checks Above and Least where the two sides are equal and n and of are not 0, and beside that place.
func checkAroundEqual(t *testing.T, n, of uint32, up int, d delta) {
	t.Helper()
	checkOrder(t, n, of, up, d, 0)
	checkOrder(t, n+1, of, up, d, 1)
	checkOrder(t, n-1, of, up, d, -1)
	checkOrder(t, n, of-1, up, d, 1)
	if of < most {
		checkOrder(t, n, of+1, up, d, -1)
	}
	checkOrder(t, n, of, up+1, d, 1)
	if up > 0 {
		checkOrder(t, n, of, up-1, d, -1)
	}
}

// P6.2: all small numbers.
func TestOrderSmall(t *testing.T) {
	for b := 2; b <= 7; b++ {
		for a := 1; a < b; a++ {
			for n := range uint32(8) {
				for of := range uint32(30) {
					for up := range 4 {
						d := delta{a, b}
						checkOrder(t, n, of, up, d, wantOrder(n, of, up, d))
					}
				}
			}
		}
	}
}

// P6.2, P6.3: the edges of all arguments with each other.
func TestOrderEdges(t *testing.T) {
	for _, d := range validDeltas() {
		for _, n := range counts() {
			for _, of := range counts() {
				for _, up := range validUps() {
					checkOrder(t, n, of, up, d, wantOrder(n, of, up, d))
					checkMonotone(t, n, of, up, d)
				}
			}
		}
	}
}

// P6.2, P6.3: many others, near the place where the sides are equal and away from it.
func TestOrderMany(t *testing.T) {
	r := rand.New(rand.NewSource(66))
	for range 20000 {
		b := 2 + r.Intn(65535)
		d := delta{1 + r.Intn(b-1), b}
		of := r.Uint32() >> r.Intn(32)
		up := r.Intn(40)
		near := (uint64(of) * uint64(d.b-d.a) / uint64(b)) >> up
		for _, n := range []uint32{uint32(near), uint32(near) + 1, r.Uint32() >> r.Intn(32)} {
			checkOrder(t, n, of, up, d, wantOrder(n, of, up, d))
			checkMonotone(t, n, of, up, d)
		}
	}
}

// checkMonotone checks P6.3 at one place: Above implies Least, and both are preserved by n and up one greater and by of one less.
func checkMonotone(t *testing.T, n, of uint32, up int, d delta) {
	t.Helper()
	above, least := Above(n, of, up, d.a, d.b), Least(n, of, up, d.a, d.b)
	if above && !least {
		t.Fatalf("Above, but not Least, of %d, %d, %d, %d, %d", n, of, up, d.a, d.b)
	}
	if n < most {
		checkPreserved(t, above, least, n+1, of, up, d)
	}
	if up < api.MaxLevel {
		checkPreserved(t, above, least, n, of, up+1, d)
	}
	if of > 0 {
		checkPreserved(t, above, least, n, of-1, up, d)
	}
}

// checkPreserved checks that what was true beside these arguments is true of them.
func checkPreserved(t *testing.T, above, least bool, n, of uint32, up int, d delta) {
	t.Helper()
	if above && !Above(n, of, up, d.a, d.b) {
		t.Fatalf("Above is not preserved at %d, %d, %d, %d, %d", n, of, up, d.a, d.b)
	}
	if least && !Least(n, of, up, d.a, d.b) {
		t.Fatalf("Least is not preserved at %d, %d, %d, %d, %d", n, of, up, d.a, d.b)
	}
}

// P6.3: along every up; in the end both are true of any n but 0.
func TestEveryUp(t *testing.T) {
	for _, d := range validDeltas() {
		for _, n := range counts() {
			for _, of := range counts() {
				for up := range api.MaxLevel + 1 {
					checkMonotone(t, n, of, up, d)
				}
				if last := Above(n, of, api.MaxLevel, d.a, d.b); last != (n > 0) {
					t.Fatalf("Above(%d, %d, MaxLevel, %d, %d) = %v", n, of, d.a, d.b, last)
				}
			}
		}
	}
}

// P6.2: neither is true where delta is not valid, whatever the other arguments are.
func TestNeitherWrongDelta(t *testing.T) {
	for _, d := range wrongDeltas() {
		for _, up := range append(validUps(), wrongUps()...) {
			for _, n := range counts() {
				checkNeither(t, n, 0, up, d)
				checkNeither(t, n, 1, up, d)
				checkNeither(t, n, n, up, d)
			}
		}
	}
	for _, a := range someInts() {
		for _, b := range someInts() {
			if a < 1 || a >= b || b > 65536 {
				checkNeither(t, most, 0, 255, delta{a, b})
				checkNeither(t, 0, 0, 0, delta{a, b})
			}
		}
	}
}

// P6.2: neither is true beyond the edges of up, not even where both sides are 0 or the right one is.
func TestNeitherWrongUp(t *testing.T) {
	for _, up := range wrongUps() {
		for _, d := range validDeltas() {
			for _, n := range counts() {
				for _, of := range counts() {
					checkNeither(t, n, of, up, d)
				}
			}
		}
	}
}

// The chapter's examples.
func TestExamples(t *testing.T) {
	if Above(1, 2, 0, 1, 2) {
		t.Error("Above(1, 2, 0, 1, 2) = true")
	}
	if !Least(1, 2, 0, 1, 2) {
		t.Error("Least(1, 2, 0, 1, 2) = false")
	}
	if !Above(1, 2, 1, 1, 2) {
		t.Error("Above(1, 2, 1, 1, 2) = false")
	}
}

// FuzzRatio holds all functions against the library.
func FuzzRatio(f *testing.F) {
	f.Add(uint32(1), uint32(2), 0, 1, 2)
	f.Add(uint32(most), uint32(most), 255, 1, 65536)
	f.Add(uint32(0), uint32(0), 256, math.MinInt, math.MaxInt)
	f.Fuzz(func(t *testing.T, n, of uint32, up, a, b int) {
		d := delta{a, b}
		valid := a > 0 && a < b && b <= 65536
		if May(a, b) != valid {
			t.Fatalf("May(%d, %d) = %v", a, b, !valid)
		}
		if up < 0 || up > 255 {
			if got, is := Product(n, of, up); got != (large.N{}) || is {
				t.Fatalf("Product(%d, %d, %d) = %x, %v", n, of, up, got, is)
			}
			checkNeither(t, n, of, up, d)
			return
		}
		checkProduct(t, n, of, up)
		if !valid {
			checkNeither(t, n, of, up, d)
			return
		}
		checkOrder(t, n, of, up, d, wantOrder(n, of, up, d))
		checkMonotone(t, n, of, up, d)
	})
}
