// Package word is layer 1: see shared/doc/01-word.md.
package word

// Rot rotates the bits of a word to the right, by any number of bits.
func Rot(x uint32, n int) uint32 {
	// The low five bits of an int are its value modulo 32, for negative ones too.
	k := uint(n) & 31
	return x>>k | x<<(32-k)
}

// Put32 returns the four bytes of a number.
func Put32(x uint32) string {
	var b [4]byte
	for i := range len(b) {
		b[i] = byte(x >> (24 - 8*i))
	}
	return string(b[:])
}

// Put64 returns the eight bytes of a number.
func Put64(x uint64) string {
	var b [8]byte
	for i := range len(b) {
		b[i] = byte(x >> (56 - 8*i))
	}
	return string(b[:])
}

// Take32 returns the number of the four bytes from an index on.
func Take32(b string, at int) uint32 {
	var x uint32
	for i := range 4 {
		x = x<<8 | uint32(byteAt(b, at, i))
	}
	return x
}

// Take64 returns the number of the eight bytes from an index on.
func Take64(b string, at int) uint64 {
	var x uint64
	for i := range 8 {
		x = x<<8 | uint64(byteAt(b, at, i))
	}
	return x
}

// byteAt returns the byte that is i bytes after the index at, or 0 if there is none.
func byteAt(b string, at, i int) byte {
	// Compared with what is left, because at+i may wrap round.
	if at < 0 || i >= len(b)-at {
		return 0
	}
	return b[at+i]
}

// Lead returns the number of leading zero bits of a number.
func Lead(x uint64) int {
	for i := range 64 {
		if x>>(63-i) != 0 {
			return i
		}
	}
	return 64
}
