package plan

import (
	"crypto/sha256"
	"encoding/binary"
	"math"
	"math/big"
	"testing"

	"drawlot/api"
)

// words are those that show a lost, doubled or misplaced bit: the edges, each bit alone, each bit missing, and mixed ones.
func words() []uint32 {
	l := []uint32{0, 1, 3, 8, 1024, 0x80000001, 0x7fffffff, 0xfffffffe, math.MaxUint32, 0x01020304, 0xdeadbeef, 0x00ff00ff, 0xaaaaaaaa, 0x55555555}
	for i := range 32 {
		l = append(l, 1<<i, ^uint32(1<<i), 1<<i-1)
	}
	return append(l, mixed(1, 2000)...)
}

func mixed(seed uint32, n int) []uint32 {
	l := make([]uint32, n)
	for i := range l {
		seed = seed*1664525 + 1013904223
		l[i] = seed ^ seed>>15
	}
	return l
}

func filled(c byte) [64]byte {
	var b [64]byte
	for i := range b {
		b[i] = c
	}
	return b
}

// counted is a block of bytes that are all unlike, so that a misplaced one shows.
func counted() [64]byte {
	var b [64]byte
	for i := range b {
		b[i] = byte(i + 200)
	}
	return b
}

// oneBit are the blocks of which one bit alone is set.
func oneBit() [][64]byte {
	l := make([][64]byte, 512)
	for i := range l {
		l[i][i/8] = 128 >> (i % 8)
	}
	return l
}

func blocks() [][64]byte {
	l := [][64]byte{{}, filled(255), filled(128), filled(127), filled(1), counted()}
	l = append(l, oneBit()...)
	for seed := range uint32(200) {
		var b [64]byte
		for i, x := range mixed(seed, 16) {
			binary.BigEndian.PutUint32(b[4*i:], x)
		}
		l = append(l, b)
	}
	return l
}

// sixteens are any sixteen words: the edges, each bit of each alone, and mixed ones.
func sixteens() [][16]uint32 {
	var none, all [16]uint32
	for i := range all {
		all[i] = math.MaxUint32
	}
	l := [][16]uint32{none, all}
	for i := range 512 {
		one := none
		one[i/32] = 1 << (i % 32)
		l = append(l, one)
	}
	for seed := range uint32(200) {
		l = append(l, [16]uint32(mixed(seed+1000, 16)))
	}
	return l
}

// mixBits is a mix made bit by bit: a turn brings bit i to bit i-n modulo 32, a shift to bit i-n, or out of the word.
func mixBits(x uint32, turn, other, shift int) uint32 {
	var y uint32
	for i := range 32 {
		if x&(1<<i) == 0 {
			continue
		}
		y ^= 1 << ((i - turn + 32) % 32)
		y ^= 1 << ((i - other + 32) % 32)
		if i >= shift {
			y ^= 1 << (i - shift)
		}
	}
	return y
}

// planned is the chapter's words by numbers without an end; over is how many of the sums ran over 32 bits.
func planned(b [64]byte) (w api.Schedule, over int) {
	for i := range 64 {
		sum := new(big.Int)
		if i < 16 {
			sum.SetBytes(b[4*i : 4*i+4])
		} else {
			for _, x := range []uint32{mixBits(w[i-2], 17, 19, 10), w[i-7], mixBits(w[i-15], 7, 18, 3), w[i-16]} {
				sum.Add(sum, big.NewInt(int64(x)))
			}
		}
		if sum.BitLen() > 32 {
			over++
		}
		w[i] = uint32(sum.Mod(sum, big.NewInt(1<<32)).Uint64())
	}
	return w, over
}

// ahead is the word that stands ahead of l in a plan: the rule of l's last word, solved for the one sixteen ahead of that.
func ahead(l [16]uint32) uint32 {
	return l[15] - mixBits(l[13], 17, 19, 10) - l[8] - mixBits(l[0], 7, 18, 3)
}

// blockOf is the block that is told by l, sixteen words of its plan from word at on.
func blockOf(l [16]uint32, at int) [64]byte {
	for range at {
		before := ahead(l)
		copy(l[1:], l[:15])
		l[0] = before
	}
	return Back(l)
}

func TestMixesByHand(t *testing.T) { // P3.1
	for _, c := range []struct{ x, first, second uint32 }{
		{0, 0, 0},
		{1, 1<<25 | 1<<14, 1<<15 | 1<<13},
		// Bits 2 and 9 are the highest that a shift by 3, or by 10, drops; 3 and 10 the lowest that it keeps.
		{1 << 2, 1<<27 | 1<<16, 1<<17 | 1<<15},
		{1 << 3, 1<<28 | 1<<17 | 1, 1<<18 | 1<<16},
		{1 << 9, 1<<2 | 1<<23 | 1<<6, 1<<24 | 1<<22},
		{1 << 10, 1<<3 | 1<<24 | 1<<7, 1<<25 | 1<<23 | 1},
		{1 << 31, 1<<24 | 1<<13 | 1<<28, 1<<14 | 1<<12 | 1<<21},
		// Of all bits three meet where the shift has one, and two where it has none.
		{math.MaxUint32, 0x1fffffff, 0x003fffff},
	} {
		if first, second := First(c.x), Second(c.x); first != c.first || second != c.second {
			t.Errorf("of %#x: %#x, %#x, want %#x, %#x", c.x, first, second, c.first, c.second)
		}
	}
}

func TestMixesBitByBit(t *testing.T) { // P3.1
	for _, x := range words() {
		if got, want := First(x), mixBits(x, 7, 18, 3); got != want {
			t.Errorf("First(%#x) = %#x, want %#x", x, got, want)
		}
		if got, want := Second(x), mixBits(x, 17, 19, 10); got != want {
			t.Errorf("Second(%#x) = %#x, want %#x", x, got, want)
		}
	}
}

func TestPlanOfNoughts(t *testing.T) { // P3.1
	if got := Of([64]byte{}); got != (api.Schedule{}) {
		t.Error(got)
	}
}

func TestPlanBeginsWithTheBlock(t *testing.T) { // P3.1
	got := Of(counted())
	for i, want := range []uint32{0xc8c9cacb, 0xcccdcecf, 0xd0d1d2d3, 0xd4d5d6d7, 0xd8d9dadb, 0xdcdddedf, 0xe0e1e2e3, 0xe4e5e6e7,
		0xe8e9eaeb, 0xecedeeef, 0xf0f1f2f3, 0xf4f5f6f7, 0xf8f9fafb, 0xfcfdfeff, 0x00010203, 0x04050607} {
		if got[i] != want {
			t.Errorf("word %d: %#x, want %#x", i, got[i], want)
		}
	}
}

func TestSumsThatRunOverByHand(t *testing.T) { // P3.1
	all := Of(filled(255))
	// 0x003fffff and 0x1fffffff, and two words that are 2^32 less 1.
	if all[16] != 0x203ffffc {
		t.Errorf("of all bits: %#x", all[16])
	}
	var words [16]uint32
	words[0], words[9] = math.MaxUint32, 1
	if got := Of(Back(words))[16]; got != 0 {
		t.Errorf("2^32 less 1, and 1: %#x", got)
	}
	words[0], words[9] = 1<<31, 1<<31+5
	if got := Of(Back(words))[16]; got != 5 {
		t.Errorf("2^31, and 2^31 and 5: %#x", got)
	}
}

func TestEachPartOfASum(t *testing.T) { // P3.1: a plan's word hangs on the ones 2, 7, 15 and 16 ahead, and on those alone
	for i := range 16 {
		var words [16]uint32
		words[i] = 1 << 31
		want := map[int]uint32{14: 1<<14 | 1<<12 | 1<<21, 9: 1 << 31, 1: 1<<24 | 1<<13 | 1<<28, 0: 1 << 31}[i]
		if got := Of(Back(words))[16]; got != want {
			t.Errorf("word 16 of word %d alone: %#x, want %#x", i, got, want)
		}
	}
}

func TestPlanOfEachBlock(t *testing.T) { // P3.1
	over := 0
	for _, b := range blocks() {
		want, n := planned(b)
		over += n
		if got := Of(b); got != want {
			t.Errorf("of %v:\n%#x, want\n%#x", b, got, want)
		}
	}
	if over < 1000 {
		t.Errorf("only %d sums ran over 32 bits", over)
	}
}

// root is the first 32 bits behind the point of the k-th root of p, found bit by bit.
func root(p, k int64) uint32 {
	power := func(x *big.Int) *big.Int { return new(big.Int).Exp(x, big.NewInt(k), nil) }
	most := new(big.Int).Lsh(big.NewInt(p), uint(32*k))
	y := new(big.Int)
	for i := 40; i >= 0; i-- {
		if more := new(big.Int).SetBit(y, i, 1); power(more).Cmp(most) <= 0 {
			y = more
		}
	}
	return uint32(y.Uint64())
}

func primes(n int) []int64 {
	var l []int64
	for p := int64(2); len(l) < n; p++ {
		if big.NewInt(p).ProbablyPrime(0) {
			l = append(l, p)
		}
	}
	return l
}

// hashed is the hash of a message that is one block when it is padded, by the plan w of that block.
func hashed(w api.Schedule) [32]byte {
	turn := func(x uint32, n int) uint32 { return x>>n | x<<(32-n) }
	var start, s [8]uint32
	for i, p := range primes(8) {
		start[i] = root(p, 2)
	}
	s = start
	for i, p := range primes(64) {
		a, b, c, e, f, g := s[0], s[1], s[2], s[4], s[5], s[6]
		x := s[7] + (turn(e, 6) ^ turn(e, 11) ^ turn(e, 25)) + (e&f ^ ^e&g) + root(p, 3) + w[i]
		y := (turn(a, 2) ^ turn(a, 13) ^ turn(a, 22)) + (a&b ^ a&c ^ b&c)
		s = [8]uint32{x + y, a, b, c, s[3] + x, e, f, g}
	}
	var h [32]byte
	for i := range s {
		binary.BigEndian.PutUint32(h[4*i:], start[i]+s[i])
	}
	return h
}

func TestPlanIsThatOfTheHash(t *testing.T) { // P3.1, held against a hash that isn't the project's own
	for n := range 56 {
		c := counted()
		message := c[:n]
		var b [64]byte
		copy(b[:], message)
		b[n] = 128
		binary.BigEndian.PutUint64(b[56:], uint64(8*n))
		if got, want := hashed(Of(b)), sha256.Sum256(message); got != want {
			t.Errorf("%d bytes: %x, want %x", n, got, want)
		}
	}
}

func TestBackByHand(t *testing.T) { // P3.1
	if got := Back([16]uint32{}); got != [64]byte{} {
		t.Error(got)
	}
	var words [16]uint32
	for i := range words {
		words[i] = 0x00010203 + uint32(i)*0x04040404
	}
	got := Back(words)
	for i, c := range got {
		if c != byte(i) {
			t.Errorf("byte %d is %d", i, c)
		}
	}
	for i := range words {
		words[i] = math.MaxUint32
	}
	if got := Back(words); got != filled(255) {
		t.Error(got)
	}
}

func TestBlocksThereAndBack(t *testing.T) { // P3.1
	for _, b := range blocks() {
		w := Of(b)
		if got := Back([16]uint32(w[:16])); got != b {
			t.Errorf("%v comes back as %v", b, got)
		}
	}
	for i := range 64 {
		for c := range 256 {
			b := counted()
			b[i] = byte(c)
			w := Of(b)
			if got := Back([16]uint32(w[:16])); got != b {
				t.Errorf("%v comes back as %v", b, got)
			}
		}
	}
}

func TestWordsThereAndBack(t *testing.T) { // P3.1
	for _, l := range sixteens() {
		w := Of(Back(l))
		if got := [16]uint32(w[:16]); got != l {
			t.Errorf("%#x come back as %#x", l, got)
		}
	}
}

func TestAnySixteenTellTheOneAhead(t *testing.T) { // P3.2
	for _, b := range blocks() {
		w := Of(b)
		for at := 1; at <= 48; at++ {
			l := [16]uint32(w[at : at+16])
			if got := ahead(l); got != w[at-1] {
				t.Errorf("of %v: words %d to %d tell %#x, want %#x", b, at, at+15, got, w[at-1])
			}
			// The same, by the package's own mixes.
			if got := l[15] - Second(l[13]) - l[8] - First(l[0]); got != w[at-1] {
				t.Errorf("of %v: words %d to %d tell %#x by the mixes, want %#x", b, at, at+15, got, w[at-1])
			}
		}
	}
}

func TestAnySixteenTellTheBlock(t *testing.T) { // P3.2
	for _, b := range blocks() {
		w := Of(b)
		for at := range 49 {
			if got := blockOf([16]uint32(w[at:at+16]), at); got != b {
				t.Errorf("from word %d on: %v, want %v", at, got, b)
			}
		}
	}
}

func TestAnySixteenAreInAPlan(t *testing.T) { // P3.2: whatever the sixteen are, the block that they tell has them there
	for _, l := range sixteens() {
		for at := range 49 {
			w := Of(blockOf(l, at))
			if got := [16]uint32(w[at : at+16]); got != l {
				t.Errorf("from word %d on: %#x, want %#x", at, got, l)
			}
		}
	}
}

func TestUnlikeBlocksAreUnlikeInAnySixteen(t *testing.T) { // P3.2
	for at := range 49 {
		of := map[[16]uint32][64]byte{}
		for _, b := range blocks() {
			w := Of(b)
			l := [16]uint32(w[at : at+16])
			if other, ok := of[l]; ok && other != b {
				t.Errorf("%v and %v have the same words from %d on", other, b, at)
			}
			of[l] = b
		}
	}
}
