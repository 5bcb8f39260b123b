package comp

import (
	"crypto/sha256"
	"encoding"
	"encoding/binary"
	"math"
	"math/big"
	"testing"

	"drawlot/api"
	"drawlot/plan"
)

func mixed(seed uint32, n int) []uint32 {
	l := make([]uint32, n)
	for i := range l {
		seed = seed*1664525 + 1013904223
		l[i] = seed ^ seed>>15
	}
	return l
}

func allBits() api.State {
	var s api.State
	for i := range s {
		s[i] = math.MaxUint32
	}
	return s
}

// oneBit are the states of which one bit alone is set.
func oneBit() []api.State {
	l := make([]api.State, 256)
	for i := range l {
		l[i][i/32] = 1 << (i % 32)
	}
	return l
}

// states are those that show a lost, doubled or misplaced bit: noughts, all bits, each bit alone, each bit missing, and mixed ones.
func states() []api.State {
	l := []api.State{{}, allBits(), {1, 2, 3, 4, 5, 6, 7, 8}, Start()}
	for i, one := range oneBit() {
		most := allBits()
		most[i/32] ^= one[i/32]
		l = append(l, one, most)
	}
	for seed := range uint32(200) {
		l = append(l, api.State(mixed(seed+7000, 8)))
	}
	return l
}

// words are the noughts, all bits, each bit alone, and mixed ones.
func words() []uint32 {
	l := []uint32{0, math.MaxUint32, math.MaxUint32 - 1, math.MaxInt32, 0x61626380}
	for i := range 32 {
		l = append(l, 1<<i)
	}
	return append(l, mixed(99, 10)...)
}

func blocks() [][64]byte {
	var none, all, counted [64]byte
	for i := range all {
		all[i] = 255
		counted[i] = byte(i + 200)
	}
	l := [][64]byte{none, all, counted}
	for i := range 512 {
		one := none
		one[i/8] = 128 >> (i % 8)
		l = append(l, one)
	}
	for seed := range uint32(50) {
		var b [64]byte
		for i, x := range mixed(seed, 16) {
			binary.BigEndian.PutUint32(b[4*i:], x)
		}
		l = append(l, b)
	}
	return l
}

// bit is the bit i of x, i modulo 32.
func bit(x uint32, i int) uint32 { return x >> (i % 32) & 1 }

// perBit is the word whose bit i is what of(i) tells.
func perBit(of func(i int) uint32) uint32 {
	var y uint32
	for i := range 32 {
		y |= of(i) << i
	}
	return y
}

// bigMix is made bit by bit: turned by n to the lowest one, bit i is what bit i+n was.
func bigMix(x uint32, l, m, n int) uint32 {
	return perBit(func(i int) uint32 { return (bit(x, i+l) + bit(x, i+m) + bit(x, i+n)) % 2 })
}

func chosen(e, f, g uint32) uint32 {
	return perBit(func(i int) uint32 {
		if bit(e, i) == 1 {
			return bit(f, i)
		}
		return bit(g, i)
	})
}

func most(a, b, c uint32) uint32 {
	return perBit(func(i int) uint32 { return (bit(a, i) + bit(b, i) + bit(c, i)) / 2 })
}

// sum is that of 32 bits, by a number that has no end here; over tells that it ran over.
func sum(l ...uint32) (x uint32, over bool) {
	var all uint64
	for _, y := range l {
		all += uint64(y)
	}
	return uint32(all % (1 << 32)), all >= 1<<32
}

// rounded is the chapter's words of a round, bit by bit; over tells that each of its sums ran over.
func rounded(s api.State, w, k uint32) (r api.State, over bool) {
	t, o1 := sum(s[7], bigMix(s[4], 6, 11, 25), chosen(s[4], s[5], s[6]), k, w)
	u, o2 := sum(bigMix(s[0], 2, 13, 22), most(s[0], s[1], s[2]))
	first, o3 := sum(t, u)
	fifth, o4 := sum(s[3], t)
	return api.State{first, s[0], s[1], s[2], fifth, s[4], s[5], s[6]}, o1 && o2 && o3 && o4
}

// taken is the chapter's words of a block that is taken, by rounds that are made bit by bit.
func taken(s api.State, b [64]byte) api.State {
	r := s
	for i, w := range plan.Of(b) {
		r, _ = rounded(r, w, root(primes(64)[i], 3))
	}
	for i := range r {
		r[i], _ = sum(r[i], s[i])
	}
	return r
}

// root is the first 32 bits behind the point of the k-th root of p: the whole root of p times 2^(32k), without what is ahead of the point.
func root(p, k int64) uint32 {
	power := func(x *big.Int) *big.Int { return new(big.Int).Exp(x, big.NewInt(k), nil) }
	most := new(big.Int).Lsh(big.NewInt(p), uint(32*k))
	y := new(big.Int)
	for i := 40; i >= 0; i-- {
		if more := new(big.Int).SetBit(y, i, 1); power(more).Cmp(most) <= 0 {
			y = more
		}
	}
	return uint32(y.Mod(y, big.NewInt(1<<32)).Uint64())
}

// primes are the first n: each number that none of those ahead divides.
func primes(n int) []int64 {
	var l []int64
next:
	for p := int64(2); len(l) < n; p++ {
		for _, q := range l {
			if p%q == 0 {
				continue next
			}
		}
		l = append(l, p)
	}
	return l
}

// byLibrary is the state that has taken b, by the library's hash, whose own form of what it keeps lets it begin at any state.
func byLibrary(t *testing.T, s api.State, b [64]byte) api.State {
	t.Helper()
	h := sha256.New()
	kept, err := h.(encoding.BinaryMarshaler).MarshalBinary()
	if err != nil {
		t.Fatal(err)
	}
	const ahead = 4 // bytes of a mark
	for i, x := range s {
		binary.BigEndian.PutUint32(kept[ahead+4*i:], x)
	}
	if err := h.(encoding.BinaryUnmarshaler).UnmarshalBinary(kept); err != nil {
		t.Fatal(err)
	}
	h.Write(b[:])
	if kept, err = h.(encoding.BinaryMarshaler).MarshalBinary(); err != nil {
		t.Fatal(err)
	}
	for i := range s {
		s[i] = binary.BigEndian.Uint32(kept[ahead+4*i:])
	}
	return s
}

func TestStartByHand(t *testing.T) { // P4.1
	want := api.State{0x6a09e667, 0xbb67ae85, 0x3c6ef372, 0xa54ff53a, 0x510e527f, 0x9b05688c, 0x1f83d9ab, 0x5be0cd19}
	if got := Start(); got != want {
		t.Errorf("%x", got)
	}
}

func TestStartIsNotKept(t *testing.T) { // P4.1: who writes into an answer doesn't change the next one
	s := Start()
	s[0] = 1
	if got := Start()[0]; got != 0x6a09e667 {
		t.Errorf("%x", got)
	}
}

func TestConstantsByHand(t *testing.T) { // P4.1: the first and the last of each line of the chapter
	for i, want := range map[int]uint32{
		0: 0x428a2f98, 7: 0xab1c5ed5, 8: 0xd807aa98, 15: 0xc19bf174, 16: 0xe49b69c1, 23: 0x76f988da, 24: 0x983e5152, 31: 0x14292967,
		32: 0x27b70a85, 39: 0x92722c85, 40: 0xa2bfe8a1, 47: 0x106aa070, 48: 0x19a4c116, 55: 0x682e6ff3, 56: 0x748f82ee, 63: 0xc67178f2,
	} {
		if got := Constant(i); got != want {
			t.Errorf("Constant(%d) = %x, want %x", i, got, want)
		}
	}
}

func TestConstantsThatThereAreNoneOf(t *testing.T) { // P4.1
	l := []int{math.MinInt, math.MinInt + 1, math.MinInt32, math.MaxInt32, math.MaxInt - 1, math.MaxInt,
		1 << 32, 1<<32 + 5, -(1 << 32), -(1 << 32) + 5, math.MinInt + 5}
	for i := range 1000 {
		l = append(l, -1-i, 64+i)
	}
	for _, i := range l {
		if got := Constant(i); got != 0 {
			t.Errorf("Constant(%d) = %x, want 0", i, got)
		}
	}
}

func TestFirstStateIsOfSquareRoots(t *testing.T) { // P4.1
	s := Start()
	for i, p := range primes(8) {
		if want := root(p, 2); s[i] != want {
			t.Errorf("word %d: %x, want %x of the square root of %d", i, s[i], want, p)
		}
	}
}

func TestConstantsAreOfCubeRoots(t *testing.T) { // P4.3
	l := primes(64)
	if l[0] != 2 || l[63] != 311 {
		t.Fatal(l)
	}
	for i, p := range l {
		if got, want := Constant(i), root(p, 3); got != want {
			t.Errorf("Constant(%d) = %x, want %x of the cube root of %d", i, got, want, p)
		}
	}
}

// TestConstantsLieBelowTheRoots holds P4.3 by a way that finds no root: with the whole part ahead of the point, a constant's
// third power is at most the prime, and that of the next one above it.
func TestConstantsLieBelowTheRoots(t *testing.T) { // P4.3
	cube := func(x int64) *big.Int { return new(big.Int).Exp(big.NewInt(x), big.NewInt(3), nil) }
	for i, p := range primes(64) {
		whole := int64(0)
		for (whole+1)*(whole+1)*(whole+1) <= p {
			whole++
		}
		y := whole<<32 + int64(Constant(i))
		prime := new(big.Int).Lsh(big.NewInt(p), 96)
		if cube(y).Cmp(prime) > 0 || cube(y+1).Cmp(prime) <= 0 {
			t.Errorf("Constant(%d) = %x isn't of the cube root of %d", i, Constant(i), p)
		}
	}
}

func TestRoundByHand(t *testing.T) { // P4.1
	const all = math.MaxUint32
	for _, c := range []struct {
		s    api.State
		w, k uint32
		want api.State
	}{
		{api.State{}, 0, 0, api.State{}},
		{api.State{}, 5, 0, api.State{5, 0, 0, 0, 5}},
		{api.State{}, 0, 6, api.State{6, 0, 0, 0, 6}},
		// Sums that run over: of the word and the constant, of t with d, of t with u.
		{api.State{}, all, 1, api.State{}},
		{api.State{0, 0, 0, all}, 3, 0, api.State{3, 0, 0, 0, 2}},
		{api.State{all, 0, 0, 0}, 3, 0, api.State{2, all, 0, 0, 3}},
		// The bit 0 alone of each word.
		{api.State{1}, 0, 0, api.State{1<<30 | 1<<19 | 1<<10, 1}},
		{api.State{0, 1}, 0, 0, api.State{0, 0, 1}},
		{api.State{0, 0, 1}, 0, 0, api.State{0, 0, 0, 1}},
		{api.State{0, 0, 0, 1}, 0, 0, api.State{0, 0, 0, 0, 1}},
		{api.State{0, 0, 0, 0, 1}, 0, 0, api.State{1<<26 | 1<<21 | 1<<7, 0, 0, 0, 1<<26 | 1<<21 | 1<<7, 1}},
		{api.State{0, 0, 0, 0, 0, 1}, 0, 0, api.State{0, 0, 0, 0, 0, 0, 1}},
		{api.State{0, 0, 0, 0, 0, 0, 1}, 0, 0, api.State{1, 0, 0, 0, 1, 0, 0, 1}},
		{api.State{0, 0, 0, 0, 0, 0, 0, 1}, 0, 0, api.State{1, 0, 0, 0, 1}},
		// Two of a, b and c make the majority, and so does b with c alone.
		{api.State{0, 12, 10}, 0, 0, api.State{8, 0, 12, 10}},
		// All bits: t is five times 2^32 - 1, u twice.
		{allBits(), all, all, api.State{all - 6, all, all, all, all - 5, all, all, all}},
		// The first round of abc.
		{Start(), 0x61626380, 0x428a2f98, api.State{0x5d6aebcd, 0x6a09e667, 0xbb67ae85, 0x3c6ef372, 0xfa2a4622, 0x510e527f, 0x9b05688c, 0x1f83d9ab}},
	} {
		if got := Round(c.s, c.w, c.k); got != c.want {
			t.Errorf("Round(%x, %x, %x) = %x, want %x", c.s, c.w, c.k, got, c.want)
		}
		if got := Back(c.want, c.w, c.k); got != c.s {
			t.Errorf("Back(%x, %x, %x) = %x, want %x", c.want, c.w, c.k, got, c.s)
		}
	}
}

func TestRoundBitByBit(t *testing.T) { // P4.1
	allOver := 0
	for _, s := range states() {
		for i, w := range words() {
			k := Constant(i)
			want, over := rounded(s, w, k)
			if over {
				allOver++
			}
			if got := Round(s, w, k); got != want {
				t.Errorf("Round(%x, %x, %x) = %x, want %x", s, w, k, got, want)
			}
			if got := Back(want, w, k); got != s {
				t.Errorf("Back(%x, %x, %x) = %x, want %x", want, w, k, got, s)
			}
		}
	}
	if allOver < 1000 {
		t.Errorf("in only %d rounds all sums ran over", allOver)
	}
}

func TestRoundComesBack(t *testing.T) { // P4.2, for whatever state, word and constant, those of the chapter or not
	l := words()
	for _, s := range states() {
		for i, w := range l {
			for _, k := range []uint32{0, 1, 1 << 31, math.MaxUint32, Constant(i), l[len(l)-1-i]} {
				if got := Back(Round(s, w, k), w, k); got != s {
					t.Errorf("%x, by %x and %x, comes back from its round as %x", s, w, k, got)
				}
				if got := Round(Back(s, w, k), w, k); got != s {
					t.Errorf("%x, by %x and %x, comes again of what is ahead of it as %x", s, w, k, got)
				}
			}
		}
	}
}

func TestUnlikeStatesAreUnlikeBehindARound(t *testing.T) { // P4.2
	behind, ahead := map[api.State]api.State{}, map[api.State]api.State{}
	for _, s := range states() {
		r, b := Round(s, 0x61626380, Constant(3)), Back(s, 0x61626380, Constant(3))
		if other, ok := behind[r]; ok && other != s {
			t.Errorf("%x and %x have the same round", other, s)
		}
		if other, ok := ahead[b]; ok && other != s {
			t.Errorf("%x and %x have the same ahead of them", other, s)
		}
		behind[r], ahead[b] = s, s
	}
}

func TestAllRoundsOfABlockComeBack(t *testing.T) { // P4.2: what a block added to a state goes back to that state, round by round
	for i, b := range blocks() {
		s := states()[i]
		r := Take(s, b)
		for j := range r {
			r[j] -= s[j]
		}
		w := plan.Of(b)
		for j := 63; j >= 0; j-- {
			r = Back(r, w[j], Constant(j))
		}
		if r != s {
			t.Errorf("%x, with %x, comes back as %x", s, b, r)
		}
	}
}

func TestTakeByHand(t *testing.T) { // P4.1
	abc := [64]byte{'a', 'b', 'c', 128, 63: 24}
	want := api.State{0xba7816bf, 0x8f01cfea, 0x414140de, 0x5dae2223, 0xb00361a3, 0x96177a9c, 0xb410ff61, 0xf20015ad}
	if got := Take(Start(), abc); got != want {
		t.Errorf("abc: %x", got)
	}
	want = api.State{0xe3b0c442, 0x98fc1c14, 0x9afbf4c8, 0x996fb924, 0x27ae41e4, 0x649b934c, 0xa495991b, 0x7852b855}
	if got := Take(Start(), [64]byte{128}); got != want {
		t.Errorf("nothing: %x", got)
	}
}

func TestTakeBitByBit(t *testing.T) { // P4.1
	l := states()
	for i, b := range blocks()[:40] {
		s := l[(i*13)%len(l)]
		if got, want := Take(s, b), taken(s, b); got != want {
			t.Errorf("Take(%x, %x) = %x, want %x", s, b, got, want)
		}
	}
}

func TestTakeAsTheLibrary(t *testing.T) { // P4.1, for any state and any block
	l, m := states(), blocks()
	for i, s := range l {
		for _, b := range [][64]byte{m[0], m[1], m[2], m[i%len(m)], m[len(m)-1-i%50]} {
			if got, want := Take(s, b), byLibrary(t, s, b); got != want {
				t.Errorf("Take(%x, %x) = %x, want %x", s, b, got, want)
			}
		}
	}
	for _, b := range m {
		if got, want := Take(Start(), b), byLibrary(t, Start(), b); got != want {
			t.Errorf("Take of the first state and %x = %x, want %x", b, got, want)
		}
	}
}

func TestBlocksOneByOne(t *testing.T) { // P4.1: each state is taken on from, to the hash of a message of as many blocks
	var message []byte
	s := Start()
	for _, b := range blocks() {
		message = append(message, b[:]...)
		s = Take(s, b)
		end := [64]byte{128}
		binary.BigEndian.PutUint64(end[56:], uint64(8*len(message)))
		var got [32]byte
		for i, x := range Take(s, end) {
			binary.BigEndian.PutUint32(got[4*i:], x)
		}
		if want := sha256.Sum256(message); got != want {
			t.Fatalf("%d bytes: %x, want %x", len(message), got, want)
		}
	}
}
