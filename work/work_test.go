package work

import (
	"bytes"
	"math"
	"math/big"
	"math/rand"
	"strings"
	"testing"

	"milepost/api"
)

// fill returns a hash all of whose bytes are b.
func fill(b byte) api.Hash { return api.Hash(bytes.Repeat([]byte{b}, 32)) }

// with returns a hash whose first bytes are given; the others are 0.
func with(first ...byte) api.Hash {
	var h api.Hash
	copy(h[:], first)
	return h
}

// ends returns a hash whose last bytes are given; the others are 0.
func ends(last ...byte) api.Hash {
	var h api.Hash
	copy(h[32-len(last):], last)
	return h
}

// then returns a hash of some bytes, and all others the same one.
func then(rest byte, first ...byte) api.Hash {
	h := fill(rest)
	copy(h[:], first)
	return h
}

// number returns a hash as a number of the library.
func number(h api.Hash) *big.Int { return new(big.Int).SetBytes(h[:]) }

// hash returns a number of the library as a hash.
func hash(x *big.Int) api.Hash {
	var h api.Hash
	x.FillBytes(h[:])
	return h
}

// moved returns a hash plus d, and whether there is such a one.
func moved(h api.Hash, d int64) (api.Hash, bool) {
	x := new(big.Int).Add(number(h), big.NewInt(d))
	if x.Sign() < 0 || x.BitLen() > 256 {
		return api.Hash{}, false
	}
	return hash(x), true
}

// mostOf returns the target divided by 2^level, by the library's division.
func mostOf(target api.Hash, level int) api.Hash {
	if level < 0 {
		level = 0
	}
	if level > 255 {
		return api.Hash{}
	}
	power := new(big.Int).Exp(big.NewInt(2), big.NewInt(int64(level)), nil)
	return hash(new(big.Int).Div(number(target), power))
}

// okOf returns whether an id has work, by the library.
func okOf(id, target api.Hash) bool { return number(id).Cmp(number(target)) <= 0 }

// levelOf returns the level of an id as the chapter defines it: it looks at every level.
func levelOf(id, target api.Hash) int {
	level := -1
	for n := 0; n <= api.MaxLevel; n++ {
		if okOf(id, mostOf(target, n)) {
			level = n
		}
	}
	return level
}

// levels are all levels and ones beyond both ends.
func levels() []int {
	l := []int{
		math.MinInt, math.MinInt + 1, math.MinInt32 - 1, math.MinInt32, -1 << 16, -1000, -257, -256, -255, -64, -63, -8, -2, -1,
		257, 258, 264, 319, 320, 321, 511, 512, 1000, 1 << 16, math.MaxInt32, math.MaxInt32 + 1, 1 << 32, 1<<32 + 1, 1<<62 - 1, 1 << 62, math.MaxInt - 64, math.MaxInt - 1, math.MaxInt,
	}
	for n := range 257 {
		l = append(l, n)
	}
	return l
}

// kinds are hashes of all kinds: few bits, many bits, powers of two and their neighbours, bytes that differ.
func kinds() []api.Hash {
	l := []api.Hash{
		{}, fill(255), fill(1), fill(128), fill(127), fill(0x55), fill(0xaa), fill(254),
		with(1), with(255), with(0, 255), with(0x80, 1), then(255, 0), then(255, 1), then(255, 0x7f), then(255, 0, 0, 0, 3),
		ends(2), ends(3), ends(5), ends(1, 0), ends(255, 255), ends(1, 0, 0, 0, 0, 0, 0, 0, 0), ends(255, 255, 255, 255, 255, 255, 255, 255),
	}
	var up api.Hash
	for i := range up {
		up[i] = byte(i + 1)
	}
	l = append(l, up)
	for _, n := range []int{0, 1, 2, 7, 8, 9, 31, 32, 63, 64, 65, 127, 128, 129, 191, 192, 193, 247, 248, 254, 255} {
		power := hash(new(big.Int).Lsh(big.NewInt(1), uint(n)))
		below, _ := moved(power, -1)
		above, _ := moved(power, 1)
		l = append(l, power, below, above)
	}
	return l
}

// someHash returns any hash, with some number of leading zero bits.
func someHash(r *rand.Rand) api.Hash {
	var h api.Hash
	r.Read(h[:])
	return mostOf(h, r.Intn(260))
}

// P19.1: Most, written out.
func TestMostWritten(t *testing.T) {
	third := then(0x55, 0x55)
	for _, c := range []struct {
		what   string
		target api.Hash
		level  int
		want   api.Hash
	}{
		{"all bits by 2^0", fill(255), 0, fill(255)},
		{"all bits by 2^1", fill(255), 1, then(255, 0x7f)},
		{"all bits by 2^8", fill(255), 8, then(255, 0)},
		{"all bits by 2^9", fill(255), 9, then(255, 0, 0x7f)},
		{"all bits by 2^64", fill(255), 64, then(255, 0, 0, 0, 0, 0, 0, 0, 0)},
		{"all bits by 2^248", fill(255), 248, ends(255)},
		{"all bits by 2^254", fill(255), 254, ends(3)},
		{"all bits by 2^255", fill(255), 255, ends(1)},
		{"all bits by 2^256", fill(255), 256, api.Hash{}},
		{"all bits by 2^257", fill(255), 257, api.Hash{}},
		{"all bits by the greatest int", fill(255), math.MaxInt, api.Hash{}},
		{"all bits by level -1", fill(255), -1, fill(255)},
		{"all bits by the least int", fill(255), math.MinInt, fill(255)},
		{"a third by 2^1", third, 1, then(0xaa, 0x2a)},
		{"a third by 2^255", third, 255, api.Hash{}},
		{"half by 2^254", with(0x80), 254, ends(2)},
		{"half by 2^255", with(0x80), 255, ends(1)},
		{"just below half by 2^255", then(255, 0x7f), 255, api.Hash{}},
		{"0 by 2^0", api.Hash{}, 0, api.Hash{}},
		{"0 by 2^255", api.Hash{}, 255, api.Hash{}},
		{"1 by 2^0", ends(1), 0, ends(1)},
		{"1 by 2^1, rounded down", ends(1), 1, api.Hash{}},
		{"7 by 2^1, rounded down", ends(7), 1, ends(3)},
		{"8 by 2^3", ends(8), 3, ends(1)},
		{"9 by level -3", ends(9), -3, ends(9)},
		{"over a byte", ends(0x12, 0x34), 4, ends(0x01, 0x23)},
		{"over a limb", ends(0x12, 0x34, 0, 0, 0, 0, 0, 0, 0), 8, ends(0x12, 0x34, 0, 0, 0, 0, 0, 0)},
	} {
		if got := Most(c.target, c.level); got != c.want {
			t.Errorf("Most: %s = %x, want %x", c.what, got, c.want)
		}
	}
}

// P19.1: Most of targets of all kinds at every level and beyond both ends is the library's quotient.
func TestMostAtEveryLevel(t *testing.T) {
	for _, target := range kinds() {
		for _, n := range levels() {
			if got, want := Most(target, n), mostOf(target, n); got != want {
				t.Fatalf("Most(%x, %d) = %x, want %x", target, n, got, want)
			}
		}
	}
}

// P19.1: a negative level counts as 0, and above 255 there is nothing, whatever the target is.
func TestMostBeyondTheEnds(t *testing.T) {
	for _, target := range kinds() {
		for _, n := range []int{-1, -2, -64, -255, -256, math.MinInt32, math.MinInt + 1, math.MinInt} {
			if got := Most(target, n); got != target {
				t.Errorf("Most(%x, %d) = %x, want the target", target, n, got)
			}
		}
		for _, n := range []int{256, 257, 320, 512, math.MaxInt32, 1 << 32, math.MaxInt - 1, math.MaxInt} {
			if got := Most(target, n); got != (api.Hash{}) {
				t.Errorf("Most(%x, %d) = %x, want 0", target, n, got)
			}
		}
	}
}

// P19.1: Ok where the id is the target, one above it and one below it.
func TestOkAroundTheTarget(t *testing.T) {
	for _, target := range kinds() {
		if !Ok(target, target) {
			t.Errorf("Ok(%x) of the target itself = false", target)
		}
		if below, there := moved(target, -1); there && !Ok(below, target) {
			t.Errorf("Ok(%x, %x) = false, but the id is one below the target", below, target)
		}
		if above, there := moved(target, 1); there && Ok(above, target) {
			t.Errorf("Ok(%x, %x) = true, but the id is one above the target", above, target)
		}
	}
}

// P19.1: Ok, written out: which bytes decide, and that the first one is the most significant.
func TestOkWritten(t *testing.T) {
	for _, c := range []struct {
		what       string
		id, target api.Hash
		want       bool
	}{
		{"0 and 0", api.Hash{}, api.Hash{}, true},
		{"0 and all bits", api.Hash{}, fill(255), true},
		{"all bits and 0", fill(255), api.Hash{}, false},
		{"all bits and all bits", fill(255), fill(255), true},
		{"1 and 0", ends(1), api.Hash{}, false},
		{"the first byte 1 and the last byte 255", with(1), ends(255), false},
		{"the last byte 255 and the first byte 1", ends(255), with(1), true},
		{"the first byte less, all others greater", then(255, 1), with(2), true},
		{"the first byte greater, all others less", with(2), then(255, 1), false},
		{"the first byte 127 and 128", with(127), with(128), true},
		{"the first byte 128 and 127", with(128), with(127), false},
		{"the last byte 127 and 128", ends(127), ends(128), true},
		{"the last byte 128 and 127", ends(128), ends(127), false},
	} {
		if got := Ok(c.id, c.target); got != c.want {
			t.Errorf("Ok: %s = %v, want %v", c.what, got, c.want)
		}
	}
}

// P19.1: ids and targets that differ in one byte alone.
func TestOkEachByte(t *testing.T) {
	for _, rest := range []byte{0, 1, 77, 128, 255} {
		for i := range 32 {
			low, high := fill(rest), fill(rest)
			low[i], high[i] = 100, 200
			if !Ok(low, high) || Ok(high, low) {
				t.Errorf("byte %d among %d: Ok = %v, the other way round %v", i, rest, Ok(low, high), Ok(high, low))
			}
		}
	}
}

// writtenLevels are ids, targets and levels, written out.
var writtenLevels = []struct {
	what       string
	id, target api.Hash
	want       int
}{
	{"all bits, the id 0", api.Hash{}, fill(255), 255},
	{"all bits, the first byte 1", with(1), fill(255), 7},
	{"all bits, the first byte 1 and all others 255", then(255, 1), fill(255), 7},
	{"all bits, the first byte 2", with(2), fill(255), 6},
	{"all bits, the first byte 128", with(128), fill(255), 0},
	{"all bits, the first byte 127 and all others 255", then(255, 127), fill(255), 1},
	{"all bits, all bits", fill(255), fill(255), 0},
	{"all bits, the id 1", ends(1), fill(255), 255},
	{"all bits, the id 2", ends(2), fill(255), 254},
	{"all bits, the id 3", ends(3), fill(255), 254},
	{"all bits, the id 4", ends(4), fill(255), 253},
	{"the target 0, the id 0", api.Hash{}, api.Hash{}, 255},
	{"the target 0, the id 1", ends(1), api.Hash{}, -1},
	{"the target 0, all bits", fill(255), api.Hash{}, -1},
	{"the target 1, the id 0", api.Hash{}, ends(1), 255},
	{"the target 1, the id 1", ends(1), ends(1), 0},
	{"the target 1, the id 2", ends(2), ends(1), -1},
	{"the target 6, the id 0", api.Hash{}, ends(6), 255},
	{"the target 6, the id 1", ends(1), ends(6), 2},
	{"the target 6, the id 2", ends(2), ends(6), 1},
	{"the target 6, the id 3", ends(3), ends(6), 1},
	{"the target 6, the id 4", ends(4), ends(6), 0},
	{"the target 6, the id 6", ends(6), ends(6), 0},
	{"the target 6, the id 7", ends(7), ends(6), -1},
	{"the target 7, the id 3", ends(3), ends(7), 1},
	{"the target 8, the id 1", ends(1), ends(8), 3},
	{"the target 8, the id 2", ends(2), ends(8), 2},
	{"the target 8, the id 3", ends(3), ends(8), 1},
	{"the target 8, the id 5", ends(5), ends(8), 0},
	{"half, the id 1", ends(1), with(128), 255},
	{"half, the id 2", ends(2), with(128), 254},
	{"half, the id 3", ends(3), with(128), 253},
	{"just below half, the id 1", ends(1), then(255, 127), 254},
	{"over limbs", ends(1, 0, 0, 0, 0, 0, 0, 0, 0), ends(1, 0, 0, 0, 0, 0, 0, 0, 0, 0), 8},
	{"over limbs, one more", ends(1, 0, 0, 0, 0, 0, 0, 0, 1), ends(1, 0, 0, 0, 0, 0, 0, 0, 0, 0), 7},
	{"no work, the first byte 1 against the last byte 255", with(1), ends(255), -1},
	{"no work, all bits against the first byte 1", fill(255), with(1), -1},
}

// P19.1: Level, written out; the chapter's examples are among them.
func TestLevelWritten(t *testing.T) {
	for _, c := range writtenLevels {
		if got := Level(c.id, c.target); got != c.want {
			t.Errorf("Level: %s = %d, want %d", c.what, got, c.want)
		}
	}
}

// P19.1: with all bytes 255 the level is the number of leading zero bits, 255 if all bits are 0 (the document's first example of the whole).
func TestLevelOfAllBits(t *testing.T) {
	for _, id := range kinds() {
		want := min(256-number(id).BitLen(), 255)
		if got := Level(id, fill(255)); got != want || !Ok(id, fill(255)) {
			t.Errorf("Level(%x) = %d, Ok = %v, want %d and true", id, got, Ok(id, fill(255)), want)
		}
	}
}

// P19.1: the id 0 has the highest level, whatever the target is.
func TestLevelOfZero(t *testing.T) {
	for _, target := range kinds() {
		if got := Level(api.Hash{}, target); got != 255 {
			t.Errorf("Level(0, %x) = %d, want 255", target, got)
		}
	}
}

// P19.1, P19.2: for targets of all kinds and every level, the ids at and around Most.
func TestLevelAroundMost(t *testing.T) {
	for _, target := range kinds() {
		for n := range 256 {
			most := mostOf(target, n)
			for _, d := range []int64{-2, -1, 0, 1, 2} {
				if id, there := moved(most, d); there {
					checkQuick(t, id, target)
				}
			}
		}
	}
}

// P19.1: every level is some id's: with the target of all bits, Most of the level has it, and one above has the level below.
func TestEachLevelIsReached(t *testing.T) {
	for n := range 256 {
		most := Most(fill(255), n)
		if got := Level(most, fill(255)); got != n {
			t.Errorf("Level of Most of %d = %d", n, got)
		}
		if above, there := moved(most, 1); there && Level(above, fill(255)) != n-1 {
			t.Errorf("Level of one above Most of %d = %d, want %d", n, Level(above, fill(255)), n-1)
		}
	}
}

// P19.1, P19.2: ids and targets of all kinds, each with each, and many others; an id and a target of the same length among them.
func TestLevelAgainstTheDefinition(t *testing.T) {
	list := kinds()
	for _, id := range list {
		for _, target := range list {
			checkAll(t, id, target)
		}
	}
	r := rand.New(rand.NewSource(19))
	for range 1000 {
		target := someHash(r)
		checkAll(t, someHash(r), target)
		checkAll(t, mostOf(target, r.Intn(256)), target)
	}
}

// checkAll checks Ok and Level (P19.1) against the definition, which looks at every level, and P19.2 at every level.
func checkAll(t *testing.T, id, target api.Hash) {
	t.Helper()
	if got, want := Level(id, target), levelOf(id, target); got != want {
		t.Fatalf("Level(%x, %x) = %d, want %d", id, target, got, want)
	}
	level := Level(id, target)
	for n := 0; n <= api.MaxLevel; n++ {
		if got, want := Ok(id, Most(target, n)), n <= level; got != want {
			t.Fatalf("Ok(%x, Most(%x, %d)) = %v, want %v at level %d", id, target, n, got, want, level)
		}
	}
	checkQuick(t, id, target)
}

// checkQuick checks Ok (P19.1) and P19.2 at an id's own level and the next one.
func checkQuick(t *testing.T, id, target api.Hash) {
	t.Helper()
	has := okOf(id, target)
	if got := Ok(id, target); got != has {
		t.Fatalf("Ok(%x, %x) = %v, want %v", id, target, got, has)
	}
	level := Level(id, target)
	if !has {
		if level != -1 {
			t.Fatalf("Level(%x, %x) = %d, want -1, since the id has no work", id, target, level)
		}
		return
	}
	if level < 0 || level > api.MaxLevel {
		t.Fatalf("Level(%x, %x) = %d", id, target, level)
	}
	if !okOf(id, mostOf(target, level)) {
		t.Fatalf("Level(%x, %x) = %d, but the id is above Most of it", id, target, level)
	}
	if level < api.MaxLevel && okOf(id, mostOf(target, level+1)) {
		t.Fatalf("Level(%x, %x) = %d, but the id qualifies for the next level", id, target, level)
	}
}

// P19.2: what qualifies for a level qualifies for all below it: Most does not rise, and half of Most is the next one.
func TestMostFalls(t *testing.T) {
	for _, target := range kinds() {
		for n := range 256 {
			most, next := Most(target, n), Most(target, n+1)
			if !Ok(next, most) {
				t.Fatalf("Most(%x, %d) = %x, and at the next level %x", target, n, most, next)
			}
			if Most(most, 1) != next {
				t.Fatalf("half of Most(%x, %d) = %x, but at the next level it is %x", target, n, Most(most, 1), next)
			}
		}
	}
}

// P19.1: the chapter's examples.
func TestExamples(t *testing.T) {
	full := fill(255)
	if got := Level(api.Hash{}, full); got != 255 {
		t.Errorf("the id 0 has level %d, want 255", got)
	}
	for _, rest := range []byte{0, 1, 128, 255} {
		if got := Level(then(rest, 1), full); got != 7 {
			t.Errorf("an id whose first byte is 1 and whose others are %d has level %d, want 7", rest, got)
		}
	}
}

// What was passed in is not changed, and a second call answers the same.
func TestChangesNothing(t *testing.T) {
	for _, id := range kinds() {
		target := then(255, 0, 0x3f)
		wasId, wasTarget := id, target
		most, ok, level := Most(target, 9), Ok(id, target), Level(id, target)
		if id != wasId || target != wasTarget {
			t.Fatalf("%x or %x was changed to %x and %x", wasId, wasTarget, id, target)
		}
		most[31]++
		if target != wasTarget || Most(target, 9) == most {
			t.Fatalf("a result that was written to changed %x", wasTarget)
		}
		if Ok(id, target) != ok || Level(id, target) != level {
			t.Fatalf("a second call of %x and %x answers otherwise", id, target)
		}
	}
}

// FuzzLevel checks ids and targets of any bytes, and Most of any level (P19.1, P19.2).
func FuzzLevel(f *testing.F) {
	for _, c := range writtenLevels {
		f.Add(string(c.id[:]), string(c.target[:]), c.want)
	}
	f.Add("", strings.Repeat("\x01", 32), math.MaxInt)
	f.Add("\x80", "\x80\x00\x01", math.MinInt)
	f.Fuzz(func(t *testing.T, a, b string, n int) {
		id, target := with([]byte(a)...), with([]byte(b)...)
		if got, want := Most(target, n), mostOf(target, n); got != want {
			t.Fatalf("Most(%x, %d) = %x, want %x", target, n, got, want)
		}
		checkAll(t, id, target)
		checkAll(t, Most(target, n), target)
	})
}
