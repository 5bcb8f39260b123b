// Package word is layer 1: words of 32 bits, and numbers as bytes. See shared/doc/01-word.md.
package word

// Left is x shifted by n bits to the highest one: x if n is below 1, 0 if n is above 31.
func Left(x uint32, n int) uint32 {
	if n < 1 {
		return x
	}
	// The language itself answers 0 of a shift by 32 bits or more.
	return x << uint(n)
}

// Right is x shifted by n bits to the lowest one: x if n is below 1, 0 if n is above 31.
func Right(x uint32, n int) uint32 {
	if n < 1 {
		return x
	}
	return x >> uint(n)
}

// Rotate is x turned by n bits to the lowest one, n modulo 32; an n below 0 turns it the other way.
func Rotate(x uint32, n int) uint32 {
	// The lowest five bits are n modulo 32, below 0 too, since 2^32 and 2^64 are multiples of 32;
	// a remainder of n itself would be below 0 there.
	k := uint(n) & 31
	return x>>k | x<<(32-k)
}

// Put32 is the bytes of x, the highest one first.
func Put32(x uint32) [4]byte {
	return [4]byte{byte(x >> 24), byte(x >> 16), byte(x >> 8), byte(x)}
}

// Get32 is the number whose bytes are b, the highest one first.
func Get32(b [4]byte) uint32 {
	// Each byte is made wide ahead of its shift: a shifted byte would lose its bits.
	return uint32(b[0])<<24 | uint32(b[1])<<16 | uint32(b[2])<<8 | uint32(b[3])
}

// Put64 is the bytes of x, the highest one first.
func Put64(x uint64) [8]byte {
	var b [8]byte
	for i := len(b) - 1; i >= 0; i-- {
		b[i] = byte(x)
		x >>= 8
	}
	return b
}

// Get64 is the number whose bytes are b, the highest one first.
func Get64(b [8]byte) uint64 {
	var x uint64
	for _, c := range b {
		x = x<<8 | uint64(c)
	}
	return x
}

// Bits is how many bits x has, without noughts ahead; 0 of 0.
func Bits(x uint64) int {
	n := 0
	for x != 0 {
		x >>= 1
		n++
	}
	return n
}
