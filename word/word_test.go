package word

import (
	"encoding/binary"
	"math"
	"math/big"
	"math/bits"
	"testing"
)

// words are those that show a lost, doubled or misplaced bit: the edges, each bit alone, each bit missing, and mixed ones.
func words() []uint32 {
	l := []uint32{0, 1, 2, 3, 5, 0x80000001, 0x7fffffff, 0xfffffffe, math.MaxUint32, 0x01020304, 0xdeadbeef, 0x00ff00ff, 0xaaaaaaaa}
	for i := range 32 {
		l = append(l, 1<<i, ^uint32(1<<i))
	}
	x := uint32(1)
	for range 50 {
		x = x*1664525 + 1013904223
		l = append(l, x)
	}
	return l
}

func longs() []uint64 {
	l := []uint64{0, 1, 2, 3, 255, 256, math.MaxUint32, math.MaxUint32 + 1, math.MaxInt64, math.MaxInt64 + 1, math.MaxUint64 - 1, math.MaxUint64, 0x0102030405060708, 0xfedcba9876543210}
	for i := range 64 {
		l = append(l, 1<<i, ^uint64(1<<i), 1<<i-1)
	}
	x := uint64(1)
	for range 50 {
		x = x*6364136223846793005 + 1442695040888963407
		l = append(l, x)
	}
	return l
}

// counts are bits to shift by: all near the edges on both sides, and the far ends of int.
func counts() []int {
	l := []int{math.MinInt, math.MinInt + 1, math.MinInt32, -(1 << 20) - 7, 1<<20 + 7, math.MaxInt32, math.MaxInt - 1, math.MaxInt}
	for n := -130; n <= 130; n++ {
		l = append(l, n)
	}
	return l
}

// shifted is x times (or, to the lowest bit, through) 2^n, n from 0 to 31, by numbers without an end.
func shifted(x uint32, n int, left bool) uint32 {
	power := new(big.Int).Exp(big.NewInt(2), big.NewInt(int64(n)), nil)
	y := big.NewInt(int64(x))
	if left {
		y.Mul(y, power)
		y.Mod(y, big.NewInt(1<<32))
	} else {
		y.Div(y, power)
	}
	return uint32(y.Uint64())
}

// turned is made bit by bit: bit i goes to bit i-n, modulo 32.
func turned(x uint32, n int) uint32 {
	var y uint32
	for i := range 32 {
		to := ((i-n%32)%32 + 32) % 32
		if x&(1<<i) != 0 {
			y |= 1 << to
		}
	}
	return y
}

func TestLeftAndRightWithinTheWord(t *testing.T) { // P1.1
	for _, x := range words() {
		for n := 1; n <= 31; n++ {
			if got, want := Left(x, n), shifted(x, n, true); got != want {
				t.Errorf("Left(%#x, %d) = %#x, want %#x", x, n, got, want)
			}
			if got, want := Right(x, n), shifted(x, n, false); got != want {
				t.Errorf("Right(%#x, %d) = %#x, want %#x", x, n, got, want)
			}
		}
	}
}

func TestLeftAndRightBeyondTheWord(t *testing.T) { // P1.1
	for _, x := range words() {
		for _, n := range counts() {
			if n >= 1 && n <= 31 {
				continue
			}
			want := x
			if n > 31 {
				want = 0
			}
			if got := Left(x, n); got != want {
				t.Errorf("Left(%#x, %d) = %#x, want %#x", x, n, got, want)
			}
			if got := Right(x, n); got != want {
				t.Errorf("Right(%#x, %d) = %#x, want %#x", x, n, got, want)
			}
		}
	}
}

func TestShiftsByHand(t *testing.T) { // P1.1
	for _, c := range []struct {
		x           uint32
		n           int
		left, right uint32
	}{
		{0x80000001, 0, 0x80000001, 0x80000001},
		{0x80000001, -1, 0x80000001, 0x80000001},
		{0x80000001, math.MinInt, 0x80000001, 0x80000001},
		{0x80000001, 1, 2, 0x40000000},
		{0x12345678, 4, 0x23456780, 0x01234567},
		{math.MaxUint32, 31, 0x80000000, 1},
		{math.MaxUint32, 32, 0, 0},
		{math.MaxUint32, 33, 0, 0},
		{math.MaxUint32, 256, 0, 0},
		{math.MaxUint32, math.MaxInt, 0, 0},
	} {
		if l, r := Left(c.x, c.n), Right(c.x, c.n); l != c.left || r != c.right {
			t.Errorf("%#x by %d: Left %#x, Right %#x, want %#x, %#x", c.x, c.n, l, r, c.left, c.right)
		}
	}
}

func TestRotateMovesEachBit(t *testing.T) { // P1.1
	for _, x := range words() {
		for _, n := range counts() {
			if got, want := Rotate(x, n), turned(x, n); got != want {
				t.Errorf("Rotate(%#x, %d) = %#x, want %#x", x, n, got, want)
			}
		}
	}
}

func TestRotateByHand(t *testing.T) { // P1.1
	for _, c := range []struct {
		x    uint32
		n    int
		want uint32
	}{
		{1, 1, 1 << 31},
		{1, -1, 2},
		{1 << 31, -1, 1},
		{0x12345678, 8, 0x78123456},
		{0x12345678, -8, 0x34567812},
		{0x12345678, 0, 0x12345678},
		{0x12345678, 32, 0x12345678},
		{0x12345678, -32, 0x12345678},
		{0x12345678, 40, 0x78123456},
		{0x12345678, -40, 0x34567812},
		{0x12345678, 1<<20 + 8, 0x78123456},
		{5, math.MinInt, 5},
		{5, math.MaxInt, 10},
		{0, 17, 0},
		{math.MaxUint32, 17, math.MaxUint32},
	} {
		if got := Rotate(c.x, c.n); got != c.want {
			t.Errorf("Rotate(%#x, %d) = %#x, want %#x", c.x, c.n, got, c.want)
		}
	}
}

func TestRotateBack(t *testing.T) { // P1.2
	for _, x := range words() {
		// -n of the least int is itself: it turns by 0, and still comes back.
		for _, n := range counts() {
			if got := Rotate(Rotate(x, n), -n); got != x {
				t.Errorf("%#x turned by %d and back is %#x", x, n, got)
			}
		}
	}
}

func TestBytesByHand(t *testing.T) { // P1.1
	if got := Put32(0x01020304); got != [4]byte{1, 2, 3, 4} {
		t.Error(got)
	}
	if got := Get32([4]byte{0x81, 2, 3, 0xff}); got != 0x810203ff {
		t.Errorf("%#x", got)
	}
	if got := Put64(0x0102030405060708); got != [8]byte{1, 2, 3, 4, 5, 6, 7, 8} {
		t.Error(got)
	}
	if got := Get64([8]byte{0x81, 2, 3, 4, 5, 6, 7, 0xff}); got != 0x81020304050607ff {
		t.Errorf("%#x", got)
	}
	if Put32(0) != [4]byte{} || Put64(0) != [8]byte{} || Get32([4]byte{}) != 0 || Get64([8]byte{}) != 0 {
		t.Error("of 0")
	}
	if Put32(math.MaxUint32) != [4]byte{255, 255, 255, 255} || Put64(math.MaxUint64) != [8]byte{255, 255, 255, 255, 255, 255, 255, 255} {
		t.Error("of the greatest")
	}
}

func TestBytesHighestFirst(t *testing.T) { // P1.1
	for _, x := range words() {
		var want [4]byte
		binary.BigEndian.PutUint32(want[:], x)
		if got := Put32(x); got != want {
			t.Errorf("Put32(%#x) = %v, want %v", x, got, want)
		}
		if got := Get32(want); got != x {
			t.Errorf("Get32(%v) = %#x, want %#x", want, got, x)
		}
	}
	for _, x := range longs() {
		var want [8]byte
		binary.BigEndian.PutUint64(want[:], x)
		if got := Put64(x); got != want {
			t.Errorf("Put64(%#x) = %v, want %v", x, got, want)
		}
		if got := Get64(want); got != x {
			t.Errorf("Get64(%v) = %#x, want %#x", want, got, x)
		}
	}
}

func TestNumbersThereAndBack(t *testing.T) { // P1.2
	for _, x := range words() {
		if got := Get32(Put32(x)); got != x {
			t.Errorf("%#x comes back as %#x", x, got)
		}
	}
	for _, x := range longs() {
		if got := Get64(Put64(x)); got != x {
			t.Errorf("%#x comes back as %#x", x, got)
		}
	}
}

func TestBytesThereAndBack(t *testing.T) { // P1.2
	for c := range 256 {
		for i := range 4 {
			b := [4]byte{9, 9, 9, 9}
			b[i] = byte(c)
			if got := Put32(Get32(b)); got != b {
				t.Errorf("%v come back as %v", b, got)
			}
		}
		for i := range 8 {
			b := [8]byte{9, 9, 9, 9, 9, 9, 9, 9}
			b[i] = byte(c)
			if got := Put64(Get64(b)); got != b {
				t.Errorf("%v come back as %v", b, got)
			}
		}
	}
}

func TestBits(t *testing.T) { // P1.1
	for _, x := range longs() {
		if got, want := Bits(x), bits.Len64(x); got != want {
			t.Errorf("Bits(%#x) = %d, want %d", x, got, want)
		}
	}
	if Bits(0) != 0 || Bits(1) != 1 || Bits(math.MaxUint64) != 64 {
		t.Error("at the edges")
	}
	for n := 1; n <= 64; n++ {
		// The least and the greatest number of n bits.
		least := uint64(1) << (n - 1)
		if a, b := Bits(least), Bits(least+(least-1)); a != n || b != n {
			t.Errorf("of %d bits: %d, %d", n, a, b)
		}
	}
}
