package large

import (
	"math"
	"math/big"
	"math/rand"
	"strconv"
	"strings"
	"testing"

	"milepost/wide"
)

const most = math.MaxUint64

// modulus is 2^320.
var modulus = new(big.Int).Lsh(big.NewInt(1), 320)

// toBig returns a number as one of the library, from its limbs.
func toBig(x N) *big.Int {
	z := new(big.Int)
	for i := 4; i >= 0; i-- {
		z.Lsh(z, 64)
		z.Add(z, new(big.Int).SetUint64(x[i]))
	}
	return z
}

// fromBig returns a number of the library that is below 2^320, limb by limb.
func fromBig(z *big.Int) N {
	z = new(big.Int).Set(z)
	limb := new(big.Int).SetUint64(most)
	var x N
	for i := range x {
		x[i] = new(big.Int).And(z, limb).Uint64()
		z.Rsh(z, 64)
	}
	return x
}

// represent returns what a function answers whose result is this number: 0 and false from 2^320 on.
func represent(z *big.Int) (N, bool) {
	if z.Cmp(modulus) >= 0 {
		return N{}, false
	}
	return fromBig(z), true
}

// power returns 2^n, for an n below 320.
func power(n int) N {
	var x N
	x[n/64] = 1 << (n % 64)
	return x
}

// below returns 2^n - 1, for an n up to 320.
func below(n int) N {
	var x N
	for i := range n {
		x[i/64] |= 1 << (i % 64)
	}
	return x
}

// edges are the numbers at the edges of the limbs, and ones that differ from each other in one limb alone.
func edges() []N {
	list := []N{
		{}, {1}, {2}, {9}, {10}, {most - 1}, {most}, {0, 1}, {1, 1}, {most, most}, {0, 0, 1}, {0, 0, 0, 0, 1}, {0, 0, 0, 0, 1 << 63},
		{most, most, most, most, 1<<63 - 1}, {most - 1, most, most, most, most}, {most, most, most, most, most - 1},
		{0, most, most, most, most}, {most, 0, most, most, most}, {most, most, 0, most, most}, {most, most, most, 0, most},
		{5, 6, 7, 8, 9}, {4, 6, 7, 8, 9}, {5, 5, 7, 8, 9}, {5, 6, 6, 8, 9}, {5, 6, 7, 7, 9}, {5, 6, 7, 8, 8}, {9, 8, 7, 6, 5},
		{0x0123456789abcdef, 0xfedcba9876543210, 0x0f1e2d3c4b5a6978, 0x8796a5b4c3d2e1f0, 0x1032547698badcfe},
		{1 << 63, 1 << 63, 1 << 63, 1 << 63, 1 << 63}, {1<<63 | 1, 1<<63 | 1, 1<<63 | 1, 1<<63 | 1, 1<<63 | 1},
	}
	for _, n := range []int{31, 32, 33, 63, 64, 65, 127, 128, 129, 191, 192, 193, 255, 256, 257, 318, 319} {
		list = append(list, power(n), below(n))
	}
	return append(list, below(320))
}

// shifts are the numbers of bits at the edges of the limbs, and beyond both ends.
func shifts() []int {
	return []int{
		0, 1, 2, 31, 32, 33, 62, 63, 64, 65, 127, 128, 129, 191, 192, 193, 254, 255, 256, 257, 318, 319, 320, 321, 383, 384, 385, 640, 1000, 1 << 31, 1 << 32, 1<<32 + 1,
		math.MaxInt - 320, math.MaxInt - 64, math.MaxInt - 1, math.MaxInt, -1, -2, -63, -64, -65, -255, -256, -319, -320, -321, -1 << 32, math.MinInt + 1, math.MinInt,
	}
}

// factors are numbers of 64 bits at the edges, and some others.
func factors() []uint64 {
	return []uint64{0, 1, 2, 3, 7, 10, 1<<32 - 1, 1 << 32, 1<<32 + 1, 1e18, 1<<63 - 1, 1 << 63, most - 1, most}
}

// divisors are numbers of 32 bits at the edges, and some others.
func divisors() []uint32 {
	return []uint32{0, 1, 2, 3, 7, 9, 10, 255, 256, 65535, 65536, 1e9, 1<<31 - 1, 1 << 31, 1<<31 + 1, 1<<32 - 2, 1<<32 - 1}
}

// someNumbers returns numbers of all lengths, the same ones each time.
func someNumbers(n int) []N {
	r := rand.New(rand.NewSource(5))
	list := make([]N, n)
	for k := range list {
		for i := range r.Intn(6) {
			list[k][i] = r.Uint64() >> r.Intn(64)
		}
	}
	return list
}

func TestBits(t *testing.T) {
	if Bits != 320 {
		t.Errorf("Bits = %d, want 320", Bits)
	}
}

// P5.1: numbers of 64 bits stand in the lowest limb alone.
func TestOf(t *testing.T) {
	for _, x := range factors() {
		if got := Of(x); got != (N{x, 0, 0, 0, 0}) {
			t.Errorf("Of(%d) = %x", x, got)
		}
	}
}

// P5.1: numbers of 256 bits keep their four limbs; the fifth one is 0.
func TestWide(t *testing.T) {
	if got, want := Wide(wide.N{11, 12, 13, 14}), (N{11, 12, 13, 14, 0}); got != want {
		t.Errorf("Wide = %x, want %x", got, want)
	}
	if got := Wide(wide.N{most, most, most, most}); got != below(256) {
		t.Errorf("Wide(2^256 - 1) = %x", got)
	}
	for _, x := range append(edges(), someNumbers(1000)...) {
		w := wide.N{x[0], x[1], x[2], x[3]}
		if got, want := Wide(w), (N{x[0], x[1], x[2], x[3], 0}); got != want {
			t.Errorf("Wide(%x) = %x, want %x", w, got, want)
		}
	}
}

// P5.1: numbers that differ in one limb alone, and ones whose lower limbs say the opposite.
func TestCmpLimbs(t *testing.T) {
	for i := range 5 {
		for _, rest := range []uint64{0, 1, 7, 1 << 63, most} {
			low := N{rest, rest, rest, rest, rest}
			high := low
			low[i], high[i] = 3, 4
			checkOrder(t, low, high)
			low[i], high[i] = 1<<63-1, 1<<63
			checkOrder(t, low, high)
			low[i], high[i] = 0, most
			checkOrder(t, low, high)
			for k := range i {
				low[k], high[k] = most, 0
			}
			checkOrder(t, low, high)
		}
	}
}

// P5.1: the numbers around each power of two, in their order.
func TestCmpPowers(t *testing.T) {
	checkOrder(t, N{}, power(0))
	for n := 1; n < 320; n++ {
		checkOrder(t, below(n), power(n))
		checkOrder(t, power(n), below(n+1))
	}
}

// checkOrder checks Cmp of two numbers of which the first one is less, both ways.
func checkOrder(t *testing.T, low, high N) {
	t.Helper()
	if got := Cmp(low, high); got != -1 {
		t.Errorf("Cmp(%x, %x) = %d, want -1", low, high, got)
	}
	if got := Cmp(high, low); got != 1 {
		t.Errorf("Cmp(%x, %x) = %d, want 1", high, low, got)
	}
	if Cmp(low, low) != 0 || Cmp(high, high) != 0 {
		t.Errorf("Cmp of %x or of %x with itself is not 0", low, high)
	}
}

// P5.1: Len of 0, of each power of two and of one less.
func TestLenPowers(t *testing.T) {
	if got := Len(N{}); got != 0 {
		t.Errorf("Len(0) = %d, want 0", got)
	}
	for n := range 320 {
		if got := Len(power(n)); got != n+1 {
			t.Errorf("Len(2^%d) = %d, want %d", n, got, n+1)
		}
		if got := Len(below(n + 1)); got != n+1 {
			t.Errorf("Len(2^%d - 1) = %d, want %d", n+1, got, n+1)
		}
	}
}

// P5.1, P5.3: the edges and many others alone.
func TestOne(t *testing.T) {
	for _, x := range append(edges(), someNumbers(3000)...) {
		checkOne(t, x)
	}
}

// checkOne checks Len and Text against the library.
func checkOne(t *testing.T, x N) {
	t.Helper()
	z := toBig(x)
	if got, want := Len(x), z.BitLen(); got != want {
		t.Fatalf("Len(%x) = %d, want %d", x, got, want)
	}
	text := Text(x)
	if text != z.String() {
		t.Fatalf("Text(%x) = %q, want %q", x, text, z)
	}
	if back := read(t, text); back != x {
		t.Fatalf("the digits of %x are those of %x", x, back)
	}
}

// read returns the number of which these are the digits, by this layer's own arithmetic (P5.4: the digits determine it).
func read(t *testing.T, text string) N {
	t.Helper()
	var x N
	for _, digit := range []byte(text) {
		ten, fits := Mul(x, 10)
		sum, is := Add(ten, Of(uint64(digit-'0')))
		if !fits || !is {
			t.Fatalf("the digits %q are not those of a number", text)
		}
		x = sum
	}
	return x
}

// P5.1, P5.2: every pair of edges.
func TestPairsOfEdges(t *testing.T) {
	list := edges()
	for _, x := range list {
		for _, y := range list {
			checkPair(t, x, y)
		}
	}
}

// P5.1, P5.2: many pairs, and each number with itself.
func TestPairs(t *testing.T) {
	list := someNumbers(4000)
	for i, x := range list {
		checkPair(t, x, list[(i+1)%len(list)])
		checkPair(t, x, x)
	}
}

// checkPair checks Cmp and Add against the library.
func checkPair(t *testing.T, x, y N) {
	t.Helper()
	a, b := toBig(x), toBig(y)
	if got, want := Cmp(x, y), a.Cmp(b); got != want {
		t.Fatalf("Cmp(%x, %x) = %d, want %d", x, y, got, want)
	}
	want, fits := represent(new(big.Int).Add(a, b))
	if got, is := Add(x, y); got != want || is != fits {
		t.Fatalf("Add(%x, %x) = %x, %v, want %x, %v", x, y, got, is, want, fits)
	}
}

// P5.2: carries from each limb into the next ones, through all five, and sums that are just and just not representable.
func TestAddWrittenOut(t *testing.T) {
	cases := []struct {
		x, y, sum N
		is        bool
	}{
		{N{}, N{}, N{}, true},
		{N{1}, N{2}, N{3}, true},
		{N{most}, N{1}, N{0, 1}, true},
		{N{0, most}, N{0, 1}, N{0, 0, 1}, true},
		{N{0, 0, most}, N{0, 0, 1}, N{0, 0, 0, 1}, true},
		{N{0, 0, 0, most}, N{0, 0, 0, 1}, N{0, 0, 0, 0, 1}, true},
		{N{most, most, most, most}, N{1}, N{0, 0, 0, 0, 1}, true},
		{N{most, most, most, most, 6}, N{1}, N{0, 0, 0, 0, 7}, true},
		{N{most, 0, most, 0, 1}, N{1, 0, 1, 0, 1}, N{0, 1, 0, 1, 2}, true},
		{N{most, most, most, most, most}, N{}, N{most, most, most, most, most}, true},
		{N{most - 1, most, most, most, most}, N{1}, N{most, most, most, most, most}, true},
		{N{most, most, most, most, most}, N{1}, N{}, false},
		{N{most, most, most, most, most}, N{2}, N{}, false},
		{N{most, most, most, most, most}, N{most, most, most, most, most}, N{}, false},
		{N{most, most, most, most, 1<<63 - 1}, N{0, 0, 0, 0, 1 << 63}, N{most, most, most, most, most}, true},
		{N{0, 0, 0, 0, 1 << 63}, N{0, 0, 0, 0, 1 << 63}, N{}, false},
		{N{5, 6, 7, 8, 1 << 63}, N{1, 1, 1, 1, 1 << 63}, N{}, false},
		{N{0, 0, 0, 0, most}, N{0, 0, 0, 0, 1}, N{}, false},
		{N{1, 0, 0, 0, most}, N{most, most, most, most}, N{}, false},
		{N{0, 0, 0, 0, most}, N{most, most, most, most}, N{most, most, most, most, most}, true},
	}
	for _, c := range cases {
		if sum, is := Add(c.x, c.y); sum != c.sum || is != c.is {
			t.Errorf("Add(%x, %x) = %x, %v, want %x, %v", c.x, c.y, sum, is, c.sum, c.is)
		}
		if sum, is := Add(c.y, c.x); sum != c.sum || is != c.is {
			t.Errorf("Add(%x, %x) = %x, %v, want %x, %v", c.y, c.x, sum, is, c.sum, c.is)
		}
	}
}

// P5.2: products of the edges and of many others.
func TestMul(t *testing.T) {
	for _, x := range append(edges(), someNumbers(2000)...) {
		for _, y := range factors() {
			checkMul(t, x, y)
		}
		for _, y := range x {
			checkMul(t, x, y)
		}
	}
}

// checkMul checks Mul against the library.
func checkMul(t *testing.T, x N, y uint64) {
	t.Helper()
	want, fits := represent(new(big.Int).Mul(toBig(x), new(big.Int).SetUint64(y)))
	if got, is := Mul(x, y); got != want || is != fits {
		t.Fatalf("Mul(%x, %d) = %x, %v, want %x, %v", x, y, got, is, want, fits)
	}
}

// P5.2: carries through all five limbs, and products that are just and just not representable.
func TestMulWrittenOut(t *testing.T) {
	full := N{most, most, most, most, most}
	cases := []struct {
		x       N
		y       uint64
		product N
		is      bool
	}{
		{N{}, 0, N{}, true}, {N{}, most, N{}, true}, {full, 0, N{}, true}, {full, 1, full, true}, {full, 2, N{}, false}, {full, most, N{}, false},
		{N{6}, 7, N{42}, true},
		{N{most}, most, N{1, most - 1}, true},
		{N{most, most, most, most}, most, N{1, most, most, most, most - 1}, true},
		{N{most, most, most, most, 1}, most, N{}, false},
		{N{0, 0, 0, 0, 1}, most, N{0, 0, 0, 0, most}, true},
		{N{0, 0, 0, 0, 2}, 1 << 63, N{}, false},
		{N{0, 0, 0, 0, 1 << 63}, 1, N{0, 0, 0, 0, 1 << 63}, true},
		{N{0, 0, 0, 0, 1 << 63}, 2, N{}, false},
		{N{most, most, most, most, 1<<63 - 1}, 2, N{most - 1, most, most, most, most}, true},
		{N{1, 1, 1, 1, 1}, most, full, true},
		{N{2, 1, 1, 1, 1}, most, N{}, false},
		{N{0x5555555555555555, 0x5555555555555555, 0x5555555555555555, 0x5555555555555555, 0x5555555555555555}, 3, full, true},
		{N{0x5555555555555556, 0x5555555555555555, 0x5555555555555555, 0x5555555555555555, 0x5555555555555555}, 3, N{}, false},
		{N{1 << 63, 1 << 63, 1 << 63, 1 << 63, 1}, 2, N{0, 1, 1, 1, 3}, true},
	}
	for _, c := range cases {
		if product, is := Mul(c.x, c.y); product != c.product || is != c.is {
			t.Errorf("Mul(%x, %d) = %x, %v, want %x, %v", c.x, c.y, product, is, c.product, c.is)
		}
	}
}

// P5.2: every shift of the edges, also negative ones and ones beyond the bits.
func TestShl(t *testing.T) {
	for _, x := range edges() {
		for n := -3; n < 400; n++ {
			checkShl(t, x, n)
		}
		for _, n := range shifts() {
			checkShl(t, x, n)
		}
	}
	for i, x := range someNumbers(4000) {
		checkShl(t, x, i%330)
		last := 320 - toBig(x).BitLen()
		checkShl(t, x, last)
		checkShl(t, x, last+1)
	}
}

// checkShl checks Shl against the library.
func checkShl(t *testing.T, x N, n int) {
	t.Helper()
	var want N
	fits := n >= 0 && x == N{}
	if x != (N{}) && n >= 0 && n < 320 {
		want, fits = represent(new(big.Int).Lsh(toBig(x), uint(n)))
	}
	if got, is := Shl(x, n); got != want || is != fits {
		t.Fatalf("Shl(%x, %d) = %x, %v, want %x, %v", x, n, got, is, want, fits)
	}
}

// P5.2: shifts at the edges of the limbs, written out.
func TestShlWrittenOut(t *testing.T) {
	x := N{0x9999999999999999}
	full := N{most, most, most, most, most}
	cases := []struct {
		x    N
		n    int
		want N
		is   bool
	}{
		{x, math.MinInt, N{}, false}, {x, -64, N{}, false}, {x, -1, N{}, false}, {x, 0, x, true},
		{x, 1, N{0x3333333333333332, 1}, true},
		{x, 4, N{0x9999999999999990, 9}, true},
		{x, 63, N{1 << 63, 0x4ccccccccccccccc}, true},
		{x, 64, N{0, 0x9999999999999999}, true},
		{x, 65, N{0, 0x3333333333333332, 1}, true},
		{x, 128, N{0, 0, 0x9999999999999999}, true},
		{x, 255, N{0, 0, 0, 1 << 63, 0x4ccccccccccccccc}, true},
		{x, 256, N{0, 0, 0, 0, 0x9999999999999999}, true},
		{x, 257, N{}, false}, {x, 319, N{}, false}, {x, 320, N{}, false}, {x, math.MaxInt, N{}, false},
		{N{1, 2, 3, 4, 5}, 0, N{1, 2, 3, 4, 5}, true},
		{N{1, 2, 3, 4}, 64, N{0, 1, 2, 3, 4}, true},
		{N{1, 2, 3, 4, 1}, 64, N{}, false},
		{full, 0, full, true}, {full, 1, N{}, false}, {full, -1, N{}, false},
		{N{}, 0, N{}, true}, {N{}, 1, N{}, true}, {N{}, 319, N{}, true}, {N{}, 320, N{}, true}, {N{}, 321, N{}, true}, {N{}, math.MaxInt, N{}, true},
		{N{}, -1, N{}, false}, {N{}, math.MinInt, N{}, false},
	}
	for _, c := range cases {
		if got, is := Shl(c.x, c.n); got != c.want || is != c.is {
			t.Errorf("Shl(%x, %d) = %x, %v, want %x, %v", c.x, c.n, got, is, c.want, c.is)
		}
	}
}

// P5.3, P5.4: quotients of the edges and of many others.
func TestDiv(t *testing.T) {
	for _, x := range append(edges(), someNumbers(2000)...) {
		for _, y := range divisors() {
			checkDiv(t, x, y)
		}
		checkDiv(t, x, uint32(x[0]))
		checkDiv(t, x, uint32(x[4]>>32))
	}
}

// checkDiv checks Div against the library, and by multiplying back (P5.4).
func checkDiv(t *testing.T, x N, y uint32) {
	t.Helper()
	quotient, rest := Div(x, y)
	if y == 0 {
		if quotient != (N{}) || rest != 0 {
			t.Fatalf("Div(%x, 0) = %x, %d, want 0, 0", x, quotient, rest)
		}
		return
	}
	q, r := new(big.Int).QuoRem(toBig(x), big.NewInt(int64(y)), new(big.Int))
	if quotient != fromBig(q) || uint64(rest) != r.Uint64() {
		t.Fatalf("Div(%x, %d) = %x, %d, want %x, %d", x, y, quotient, rest, q, r)
	}
	if rest >= y {
		t.Fatalf("Div(%x, %d) leaves %d", x, y, rest)
	}
	product, fits := Mul(quotient, uint64(y))
	back, is := Add(product, Of(uint64(rest)))
	if back != x || !fits || !is {
		t.Fatalf("Div(%x, %d) = %x, %d: back to %x", x, y, quotient, rest, back)
	}
}

// P5.3: quotients written out, with remainders that pass from limb to limb.
func TestDivWrittenOut(t *testing.T) {
	full := N{most, most, most, most, most}
	cases := []struct {
		x        N
		y        uint32
		quotient N
		rest     uint32
	}{
		{N{}, 0, N{}, 0}, {N{7}, 0, N{}, 0}, {full, 0, N{}, 0}, {N{}, 1, N{}, 0}, {N{}, 1<<32 - 1, N{}, 0}, {full, 1, full, 0},
		{N{9}, 10, N{}, 9}, {N{10}, 10, N{1}, 0}, {N{11}, 10, N{1}, 1},
		{N{0, 1}, 10, N{1844674407370955161}, 6},
		{N{0, 0, 0, 0, 1}, 2, N{0, 0, 0, 1 << 63}, 0},
		{N{1, 0, 0, 0, 1}, 2, N{0, 0, 0, 1 << 63}, 1},
		{full, 3, N{0x5555555555555555, 0x5555555555555555, 0x5555555555555555, 0x5555555555555555, 0x5555555555555555}, 0},
		{full, 1<<32 - 1, N{0x100000001, 0x100000001, 0x100000001, 0x100000001, 0x100000001}, 0},
		{full, 1 << 31, N{most, most, most, most, 1<<33 - 1}, 1<<31 - 1},
		{N{1<<32 - 2}, 1<<32 - 1, N{}, 1<<32 - 2},
	}
	for _, c := range cases {
		if quotient, rest := Div(c.x, c.y); quotient != c.quotient || rest != c.rest {
			t.Errorf("Div(%x, %d) = %x, %d, want %x, %d", c.x, c.y, quotient, rest, c.quotient, c.rest)
		}
	}
}

// P5.3: digits written out.
func TestTextWrittenOut(t *testing.T) {
	cases := []struct {
		x    N
		want string
	}{
		{N{}, "0"}, {N{1}, "1"}, {N{9}, "9"}, {N{10}, "10"}, {N{999999999}, "999999999"}, {N{1000000000}, "1000000000"}, {N{1000000001}, "1000000001"},
		{N{most}, "18446744073709551615"},
		{N{0, 1}, "18446744073709551616"},
		{N{0, 0, 1}, "340282366920938463463374607431768211456"},
		{N{0, 0, 0, 0, 1}, "115792089237316195423570985008687907853269984665640564039457584007913129639936"},
		{N{most, most, most, most}, "115792089237316195423570985008687907853269984665640564039457584007913129639935"},
		{N{0, 0, 0, 0, 1 << 63}, "1067993517960455041197510853084776057301352261178326384973520803911109862890320275011481043468288"},
		{N{most, most, most, most, most}, "2135987035920910082395021706169552114602704522356652769947041607822219725780640550022962086936575"},
	}
	for _, c := range cases {
		if got := Text(c.x); got != c.want {
			t.Errorf("Text(%x) = %q, want %q", c.x, got, c.want)
		}
	}
}

// P5.3: the digits of each digit, of each power of ten, of one less and of one more.
func TestTextPowersOfTen(t *testing.T) {
	for digit := range uint64(10) {
		if got := Text(Of(digit)); got != strconv.FormatUint(digit, 10) {
			t.Errorf("Text(%d) = %q", digit, got)
		}
	}
	// 10^96 is the greatest power of ten below 2^320.
	for zeros := 1; zeros <= 96; zeros++ {
		z := new(big.Int).Exp(big.NewInt(10), big.NewInt(int64(zeros)), nil)
		if got, want := Text(fromBig(z)), "1"+strings.Repeat("0", zeros); got != want {
			t.Errorf("Text(10^%d) = %q", zeros, got)
		}
		less := new(big.Int).Sub(z, big.NewInt(1))
		if got, want := Text(fromBig(less)), strings.Repeat("9", zeros); got != want {
			t.Errorf("Text(10^%d - 1) = %q", zeros, got)
		}
		more := new(big.Int).Add(z, big.NewInt(1))
		if got, want := Text(fromBig(more)), "1"+strings.Repeat("0", zeros-1)+"1"; got != want {
			t.Errorf("Text(10^%d + 1) = %q", zeros, got)
		}
	}
}

// The chapter's examples.
func TestExamples(t *testing.T) {
	x, is := Shl(Of(1), 319)
	if !is || Len(x) != 320 {
		t.Errorf("Shl(1, 319) = %x, %v, want a number of Len 320", x, is)
	}
	if x, is := Shl(Of(1), 320); x != (N{}) || is {
		t.Errorf("Shl(1, 320) = %x, %v, want 0, false", x, is)
	}
	if got := Text(N{0, 1}); got != "18446744073709551616" {
		t.Errorf("Text(2^64) = %q", got)
	}
}

// FuzzLarge holds all functions against the library.
func FuzzLarge(f *testing.F) {
	f.Add(uint64(0), uint64(0), uint64(0), uint64(0), uint64(0), uint64(0), 0)
	f.Add(uint64(most), uint64(most), uint64(most), uint64(most), uint64(most), uint64(10), 1)
	f.Add(uint64(1), uint64(0), uint64(0), uint64(0), uint64(0), uint64(most), 319)
	f.Fuzz(func(t *testing.T, a, b, c, d, e, y uint64, n int) {
		x := N{a, b, c, d, e}
		checkOne(t, x)
		checkPair(t, x, N{y, e, d, c, b})
		checkPair(t, x, N{^a, ^b, ^c, ^d, ^e})
		checkMul(t, x, y)
		checkMul(t, N{a, b, c, d}, y)
		checkDiv(t, x, uint32(y))
		checkShl(t, x, n)
		checkShl(t, N{a, b}, n)
	})
}
