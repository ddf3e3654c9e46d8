package wide

import (
	"bytes"
	"encoding/binary"
	"math"
	"math/big"
	"math/rand"
	"testing"

	"milepost/api"
)

const most = math.MaxUint64

// modulus is 2^256.
var modulus = new(big.Int).Lsh(big.NewInt(1), 256)

// toBig returns a number as one of the library, from its limbs.
func toBig(x N) *big.Int {
	z := new(big.Int)
	for i := 3; i >= 0; i-- {
		z.Lsh(z, 64)
		z.Add(z, new(big.Int).SetUint64(x[i]))
	}
	return z
}

// fromBig returns a number of the library, modulo 2^256, limb by limb.
func fromBig(z *big.Int) N {
	z = new(big.Int).Mod(z, modulus)
	limb := new(big.Int).SetUint64(most)
	var x N
	for i := range x {
		x[i] = new(big.Int).And(z, limb).Uint64()
		z.Rsh(z, 64)
	}
	return x
}

// power returns 2^n, for an n below 256.
func power(n int) N {
	var x N
	x[n/64] = 1 << (n % 64)
	return x
}

// below returns 2^n - 1, for an n up to 256.
func below(n int) N {
	var x N
	for i := range n {
		x[i/64] |= 1 << (i % 64)
	}
	return x
}

// edges are the numbers at the edges of the limbs, and ones that differ from each other in one limb alone.
func edges() []N {
	list := []N{
		{}, {1}, {2}, {most - 1}, {most}, {0, 1}, {1, 1}, {most, most}, {0, 0, 1}, {most, most, most}, {0, 0, 0, 1}, {0, 0, 0, 1 << 63},
		{most, most, most, 1<<63 - 1}, {most - 1, most, most, most}, {most, most, most, most - 1}, {most, most, most, most},
		{0, most, most, most}, {most, 0, most, most}, {most, most, 0, most}, {most, most, most, 0},
		{5, 6, 7, 8}, {4, 6, 7, 8}, {5, 5, 7, 8}, {5, 6, 6, 8}, {5, 6, 7, 7}, {8, 7, 6, 5},
		{1, 2, 3, 4}, {0x0123456789abcdef, 0xfedcba9876543210, 0x0f1e2d3c4b5a6978, 0x8796a5b4c3d2e1f0},
		{1 << 63, 1 << 63, 1 << 63, 1 << 63}, {1<<63 | 1, 1<<63 | 1, 1<<63 | 1, 1<<63 | 1},
	}
	for _, n := range []int{31, 32, 63, 64, 65, 127, 128, 129, 191, 192, 193, 254, 255} {
		list = append(list, power(n), below(n))
	}
	return list
}

// shifts are the numbers of bits at the edges of the limbs, and beyond both ends.
func shifts() []int {
	return []int{
		0, 1, 2, 7, 8, 31, 32, 33, 62, 63, 64, 65, 126, 127, 128, 129, 190, 191, 192, 193, 254, 255, 256, 257, 319, 320, 512, 1000, 1 << 31, 1 << 32, 1<<32 + 1,
		math.MaxInt - 64, math.MaxInt - 1, math.MaxInt, -1, -2, -63, -64, -65, -255, -256, -257, -1 << 32, math.MinInt + 1, math.MinInt,
	}
}

// someNumbers returns numbers of all lengths, the same ones each time.
func someNumbers(n int) []N {
	r := rand.New(rand.NewSource(4))
	list := make([]N, n)
	for k := range list {
		for i := range r.Intn(5) {
			list[k][i] = r.Uint64() >> r.Intn(64)
		}
	}
	return list
}

func TestBits(t *testing.T) {
	if Bits != 256 {
		t.Errorf("Bits = %d, want 256", Bits)
	}
}

// P4.1: each byte of a hash has its place in a limb, and returns to it.
func TestOfEachByte(t *testing.T) {
	for i := range 32 {
		for _, b := range []byte{1, 127, 128, 255} {
			var h api.Hash
			h[i] = b
			var want N
			want[(31-i)/8] = uint64(b) << (8 * ((31 - i) % 8))
			if got := Of(h); got != want {
				t.Errorf("Of of byte %d at %d = %x, want %x", b, i, got, want)
			}
			if got := want.Hash(); got != h {
				t.Errorf("Hash of %x = %x, want %x", want, got, h)
			}
		}
	}
}

// P4.1: a hash whose bytes are all different, written out limb by limb.
func TestOfWrittenOut(t *testing.T) {
	var h api.Hash
	for i := range h {
		h[i] = byte(i + 1)
	}
	want := N{0x191a1b1c1d1e1f20, 0x1112131415161718, 0x090a0b0c0d0e0f10, 0x0102030405060708}
	if got := Of(h); got != want {
		t.Errorf("Of = %x, want %x", got, want)
	}
	if got := want.Hash(); got != h {
		t.Errorf("Hash = %x, want %x", got, h)
	}
}

// P4.1: the edges and many others have the bytes that the library writes.
func TestOfAndHash(t *testing.T) {
	for _, x := range append(edges(), someNumbers(2000)...) {
		checkBytes(t, x)
	}
}

// checkBytes checks a number's bytes, and that Of reads them.
func checkBytes(t *testing.T, x N) {
	t.Helper()
	var want api.Hash
	toBig(x).FillBytes(want[:])
	got := x.Hash()
	if got != want {
		t.Fatalf("Hash of %x = %x, want %x", x, got, want)
	}
	if back := Of(got); back != x {
		t.Fatalf("Of(%x) = %x, want %x", got, back, x)
	}
}

// P4.2: every pair of edges.
func TestPairsOfEdges(t *testing.T) {
	list := edges()
	for _, x := range list {
		for _, y := range list {
			checkPair(t, x, y)
		}
	}
}

// P4.2: many pairs, and each number with itself.
func TestPairs(t *testing.T) {
	list := someNumbers(4000)
	for i, x := range list {
		checkPair(t, x, list[(i+1)%len(list)])
		checkPair(t, x, x)
	}
}

// checkPair checks Cmp, Add and Sub (P4.2) against the library, and what follows (P4.4).
func checkPair(t *testing.T, x, y N) {
	t.Helper()
	a, b := toBig(x), toBig(y)
	if got, want := Cmp(x, y), a.Cmp(b); got != want {
		t.Fatalf("Cmp(%x, %x) = %d, want %d", x, y, got, want)
	}
	full := new(big.Int).Add(a, b)
	sum, over := Add(x, y)
	if sum != fromBig(full) || over != (full.Cmp(modulus) >= 0) {
		t.Fatalf("Add(%x, %x) = %x, %v, want the low bits of %x", x, y, sum, over, full)
	}
	less := new(big.Int).Sub(a, b)
	diff, under := Sub(x, y)
	if diff != fromBig(less) || under != (less.Sign() < 0) {
		t.Fatalf("Sub(%x, %x) = %x, %v, want %x modulo 2^256", x, y, diff, under, less)
	}
	checkFollows(t, x, y)
}

// checkFollows checks that Add and Sub are inverse to each other, and that Cmp orders numbers like their bytes (P4.4).
func checkFollows(t *testing.T, x, y N) {
	t.Helper()
	sum, over := Add(x, y)
	if back, under := Sub(sum, y); back != x || under != over {
		t.Fatalf("Sub(Add(%x, %x)) = %x, %v, want back, %v", x, y, back, under, over)
	}
	diff, under := Sub(x, y)
	if back, over := Add(diff, y); back != x || over != under {
		t.Fatalf("Add(Sub(%x, %x)) = %x, %v, want back, %v", x, y, back, over, under)
	}
	if under != (Cmp(x, y) < 0) {
		t.Fatalf("Sub(%x, %x) says %v, Cmp says %d", x, y, under, Cmp(x, y))
	}
	p, q := x.Hash(), y.Hash()
	if got, want := Cmp(x, y), bytes.Compare(p[:], q[:]); got != want {
		t.Fatalf("Cmp(%x, %x) = %d, but their bytes compare as %d", x, y, got, want)
	}
	if Cmp(y, x) != -Cmp(x, y) {
		t.Fatalf("Cmp(%x, %x) = %d and the other way round %d", x, y, Cmp(x, y), Cmp(y, x))
	}
}

// P4.2: numbers that differ in one limb alone, and ones whose lower limbs say the opposite.
func TestCmpLimbs(t *testing.T) {
	for i := range 4 {
		for _, rest := range []uint64{0, 1, 7, 1 << 63, most} {
			low := N{rest, rest, rest, rest}
			high := low
			low[i], high[i] = 3, 4
			checkOrder(t, low, high)
			low[i], high[i] = 1<<63-1, 1<<63
			checkOrder(t, low, high)
			low[i], high[i] = 0, most
			checkOrder(t, low, high)
			for k := range i {
				low[k], high[k] = most, 0
			}
			checkOrder(t, low, high)
		}
	}
}

// checkOrder checks Cmp of two numbers of which the first one is less, both ways.
func checkOrder(t *testing.T, low, high N) {
	t.Helper()
	if got := Cmp(low, high); got != -1 {
		t.Errorf("Cmp(%x, %x) = %d, want -1", low, high, got)
	}
	if got := Cmp(high, low); got != 1 {
		t.Errorf("Cmp(%x, %x) = %d, want 1", high, low, got)
	}
	if Cmp(low, low) != 0 || Cmp(high, high) != 0 {
		t.Errorf("Cmp of %x or of %x with itself is not 0", low, high)
	}
}

// P4.2: carries from each limb into the next ones, and sums that overflow.
func TestAddWrittenOut(t *testing.T) {
	cases := []struct {
		x, y, sum N
		over      bool
	}{
		{N{}, N{}, N{}, false},
		{N{1}, N{2}, N{3}, false},
		{N{most}, N{1}, N{0, 1}, false},
		{N{0, most}, N{0, 1}, N{0, 0, 1}, false},
		{N{0, 0, most}, N{0, 0, 1}, N{0, 0, 0, 1}, false},
		{N{most, most, most}, N{1}, N{0, 0, 0, 1}, false},
		{N{most, most, most, most}, N{}, N{most, most, most, most}, false},
		{N{most, most, most, most}, N{1}, N{}, true},
		{N{most, most, most, most}, N{2}, N{1}, true},
		{N{most, most, most, most}, N{most, most, most, most}, N{most - 1, most, most, most}, true},
		{N{0, 0, 0, 1 << 63}, N{0, 0, 0, 1 << 63}, N{}, true},
		{N{5, 6, 7, 1 << 63}, N{1, 1, 1, 1 << 63}, N{6, 7, 8, 0}, true},
		{N{most, 0, most, 0}, N{1, 0, 1, 0}, N{0, 1, 0, 1}, false},
		{N{most, most, 0, 0}, N{most, most, 0, 0}, N{most - 1, most, 1, 0}, false},
	}
	for _, c := range cases {
		if sum, over := Add(c.x, c.y); sum != c.sum || over != c.over {
			t.Errorf("Add(%x, %x) = %x, %v, want %x, %v", c.x, c.y, sum, over, c.sum, c.over)
		}
		if sum, over := Add(c.y, c.x); sum != c.sum || over != c.over {
			t.Errorf("Add(%x, %x) = %x, %v, want %x, %v", c.y, c.x, sum, over, c.sum, c.over)
		}
	}
}

// P4.2: borrows from each limb out of the next ones, and differences below zero.
func TestSubWrittenOut(t *testing.T) {
	cases := []struct {
		x, y, diff N
		under      bool
	}{
		{N{}, N{}, N{}, false},
		{N{3}, N{2}, N{1}, false},
		{N{0, 1}, N{1}, N{most}, false},
		{N{0, 0, 1}, N{0, 1}, N{0, most}, false},
		{N{0, 0, 0, 1}, N{0, 0, 1}, N{0, 0, most}, false},
		{N{0, 0, 0, 1}, N{1}, N{most, most, most}, false},
		{N{}, N{1}, N{most, most, most, most}, true},
		{N{}, N{most, most, most, most}, N{1}, true},
		{N{1}, N{2}, N{most, most, most, most}, true},
		{N{most, most, most}, N{0, 0, 0, 1}, N{most, most, most, most}, true},
		{N{5, 6, 7, 8}, N{4, 5, 6, 9}, N{1, 1, 1, most}, true},
		{N{0, 0, 0, 1 << 63}, N{0, 0, 0, 1 << 63}, N{}, false},
		{N{0, 1, 0, 1}, N{1, 0, 1, 0}, N{most, 0, most, 0}, false},
		{N{most, most, most, most}, N{most, most, most, most}, N{}, false},
	}
	for _, c := range cases {
		if diff, under := Sub(c.x, c.y); diff != c.diff || under != c.under {
			t.Errorf("Sub(%x, %x) = %x, %v, want %x, %v", c.x, c.y, diff, under, c.diff, c.under)
		}
	}
}

// P4.4: the numbers around each power of two, in their order.
func TestOrderOfPowers(t *testing.T) {
	for n := 1; n < 256; n++ {
		checkOrder(t, below(n), power(n))
		checkFollows(t, below(n), power(n))
		checkFollows(t, power(n), below(n))
		if n > 1 {
			checkOrder(t, power(n-1), below(n))
		}
	}
}

// P4.3: every shift of the edges, also negative ones and ones beyond the bits.
func TestShr(t *testing.T) {
	for _, x := range edges() {
		for n := -3; n < 330; n++ {
			checkShr(t, x, n)
		}
		for _, n := range shifts() {
			checkShr(t, x, n)
		}
	}
	for i, x := range someNumbers(3000) {
		checkShr(t, x, i%300)
	}
}

// checkShr checks Shr against the library.
func checkShr(t *testing.T, x N, n int) {
	t.Helper()
	want := N{}
	if n < 256 {
		want = fromBig(new(big.Int).Rsh(toBig(x), uint(max(n, 0))))
	}
	if got := Shr(x, n); got != want {
		t.Fatalf("Shr(%x, %d) = %x, want %x", x, n, got, want)
	}
}

// P4.3: shifts at the edges of the limbs, written out.
func TestShrWrittenOut(t *testing.T) {
	x := N{0x1111111111111111, 0x2222222222222222, 0x4444444444444444, 0x8888888888888888}
	cases := []struct {
		n    int
		want N
	}{
		{math.MinInt, x}, {-64, x}, {-1, x}, {0, x},
		{1, N{0x0888888888888888, 0x1111111111111111, 0x2222222222222222, 0x4444444444444444}},
		{4, N{0x2111111111111111, 0x4222222222222222, 0x8444444444444444, 0x0888888888888888}},
		{63, N{0x4444444444444444, 0x8888888888888888, 0x1111111111111110, 1}},
		{64, N{0x2222222222222222, 0x4444444444444444, 0x8888888888888888}},
		{65, N{0x1111111111111111, 0x2222222222222222, 0x4444444444444444}},
		{128, N{0x4444444444444444, 0x8888888888888888}},
		{192, N{0x8888888888888888}},
		{255, N{1}},
		{256, N{}}, {257, N{}}, {1 << 32, N{}}, {math.MaxInt, N{}},
	}
	for _, c := range cases {
		if got := Shr(x, c.n); got != c.want {
			t.Errorf("Shr(%x, %d) = %x, want %x", x, c.n, got, c.want)
		}
	}
}

// P4.3: Len of 0, of each power of two, of one less and of one more.
func TestLenPowers(t *testing.T) {
	if got := Len(N{}); got != 0 {
		t.Errorf("Len(0) = %d, want 0", got)
	}
	for n := range 256 {
		if got := Len(power(n)); got != n+1 {
			t.Errorf("Len(2^%d) = %d, want %d", n, got, n+1)
		}
		if got := Len(below(n)); got != n {
			t.Errorf("Len(2^%d - 1) = %d, want %d", n, got, n)
		}
		more, _ := Add(power(n), below(n))
		if got := Len(more); got != n+1 {
			t.Errorf("Len(2^%d - 1) = %d, want %d", n+1, got, n+1)
		}
	}
	if got := Len(below(256)); got != 256 {
		t.Errorf("Len(2^256 - 1) = %d, want 256", got)
	}
}

// P4.3: Len is the least number of bits whose removal leaves nothing.
func TestLen(t *testing.T) {
	for _, x := range append(edges(), someNumbers(2000)...) {
		checkLen(t, x)
	}
}

// checkLen checks Len against the library and against Shr.
func checkLen(t *testing.T, x N) {
	t.Helper()
	n := Len(x)
	if want := toBig(x).BitLen(); n != want {
		t.Fatalf("Len(%x) = %d, want %d", x, n, want)
	}
	if Shr(x, n) != (N{}) || (n > 0 && Shr(x, n-1) != N{1}) {
		t.Fatalf("Len(%x) = %d, but Shr by it is %x and by one less is %x", x, n, Shr(x, n), Shr(x, n-1))
	}
}

// The chapter's examples.
func TestExamples(t *testing.T) {
	full := Of(api.Hash(bytes.Repeat([]byte{255}, 32)))
	if got := Len(full); got != 256 {
		t.Errorf("Len = %d, want 256", got)
	}
	if got := Shr(full, 255); got != (N{1}) {
		t.Errorf("Shr by 255 = %x, want 1", got)
	}
	if sum, over := Add(full, N{1}); sum != (N{}) || !over {
		t.Errorf("Add of 1 = %x, %v, want 0, true", sum, over)
	}
}

// P4.1 to P4.4 for any limbs and any shift.
func FuzzWide(f *testing.F) {
	f.Add(make([]byte, 64), 0)
	f.Add(bytes.Repeat([]byte{255}, 64), 255)
	f.Add(append(make([]byte, 32), 1), -1)
	f.Fuzz(func(t *testing.T, b []byte, n int) {
		b = append(b, make([]byte, 64)...)
		var x, y N
		for i := range x {
			x[i] = binary.LittleEndian.Uint64(b[8*i:])
			y[i] = binary.LittleEndian.Uint64(b[32+8*i:])
		}
		checkBytes(t, x)
		checkPair(t, x, y)
		checkShr(t, x, n)
		checkShr(t, x, n%300)
		checkLen(t, x)
	})
}
