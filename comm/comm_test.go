package comm

import (
	"bytes"
	"crypto/sha256"
	"encoding/binary"
	"fmt"
	"math"
	"math/big"
	"slices"
	"strings"
	"testing"

	"drawlot/api"
	"drawlot/fen"
	"drawlot/lead"
	"drawlot/odds"
	"drawlot/scan"
)

const (
	top  = 1 << 63
	most = 1 << 20

	// streamEnd is the number behind the last one of a stream's bits.
	streamEnd = 1 << 62
)

// mixed are numbers without a visible order.
type mixed uint64

func (m *mixed) next() uint64 {
	*m = *m*6364136223846793005 + 1442695040888963407
	return uint64(*m) >> 16
}

// row is n stakes below the bound, about a third of them 0.
func row(n int, bound uint64) []uint64 {
	m, l := mixed(uint64(n)*31+bound), make([]uint64, n)
	for i := range l {
		if m.next()%3 != 0 {
			l[i] = m.next() % bound
		}
	}
	return l
}

// ones is n stakes of 1.
func ones(n int) []uint64 { return slices.Repeat([]uint64{1}, n) }

// everyRow calls do with each row of up to that many stakes below the bound.
func everyRow(length int, bound uint64, do func(l []uint64)) {
	rows := [][]uint64{nil}
	for range length + 1 {
		var longer [][]uint64
		for _, l := range rows {
			do(slices.Clone(l))
			for s := range bound {
				longer = append(longer, slices.Concat(l, []uint64{s}))
			}
		}
		rows = longer
	}
}

// everyOrder is all lists of c numbers from the first to the last one.
func everyOrder(c, first, last int) [][]int {
	lists := [][]int{{}}
	for range c {
		var longer [][]int
		for _, l := range lists {
			for i := first; i <= last; i++ {
				longer = append(longer, slices.Concat(l, []int{i}))
			}
		}
		lists = longer
	}
	return lists
}

// short is the beginning of l.
func short[T any](l []T) []T { return l[:min(len(l), 20)] }

func tapeAt(b []byte, bits, at uint64) api.Source {
	return api.Source{Kind: api.SrcTape, Tape: b, Bits: bits, At: at}
}

func streamAt(seed api.Hash, domain, at uint64) api.Source {
	return api.Source{Kind: api.SrcStream, Seed: seed, Domain: domain, At: at}
}

// tapeOf is a tape of these digits; blanks between them don't count.
func tapeOf(text string) api.Source {
	text = strings.ReplaceAll(text, " ", "")
	b := make([]byte, (len(text)+7)/8)
	for i, c := range text {
		if c == '1' {
			b[i/8] |= 128 >> (i % 8)
		}
	}
	return tapeAt(b, uint64(len(text)), 0)
}

// behind is s with so many bits read.
func behind(s api.Source, read int) api.Source {
	s.At += uint64(read)
	return s
}

// alike holds two sources against each other in all fields; a tape that holds nothing may be nil.
func alike(a, b api.Source) bool {
	return a.Kind == b.Kind && bytes.Equal(a.Tape, b.Tape) && a.Bits == b.Bits && a.Seed == b.Seed && a.Domain == b.Domain && a.At == b.At
}

// seed is the hash of a text.
func seed(text string) api.Hash { return sha256.Sum256([]byte(text)) }

// reader reads a source that may be, bit by bit, by the words of layers 6 and 7.
type reader struct {
	s      api.Source
	at     uint64
	block  [32]byte
	number uint64
	hashed bool
}

func (r *reader) left() uint64 {
	if r.s.Kind == api.SrcTape {
		return r.s.Bits - r.at
	}
	return streamEnd - r.at
}

func (r *reader) octet() byte {
	if r.s.Kind == api.SrcTape {
		return r.s.Tape[r.at/8]
	}
	if !r.hashed || r.number != r.at/256 {
		b := append([]byte(nil), r.s.Seed[:]...)
		b = binary.BigEndian.AppendUint64(b, r.s.Domain)
		b = binary.BigEndian.AppendUint64(b, r.at/256)
		r.block, r.number, r.hashed = sha256.Sum256(b), r.at/256, true
	}
	return r.block[r.at%256/8]
}

// take is the next k bits as a number; false, and nothing read, if there aren't so many.
func (r *reader) take(k int) (uint64, bool) {
	if r.left() < uint64(k) {
		return 0, false
	}
	x := uint64(0)
	for range k {
		x *= 2
		if r.octet()&(128>>(r.at%8)) != 0 {
			x++
		}
		r.at++
	}
	return x, true
}

// mayBe tells if s may be, by the words of layer 7.
func mayBe(s api.Source) bool {
	switch s.Kind {
	case api.SrcTape:
		bits := new(big.Int).SetUint64(s.Bits)
		return bits.Cmp(big.NewInt(int64(8*len(s.Tape)))) <= 0 && s.At <= s.Bits
	case api.SrcStream:
		return s.At <= streamEnd
	}
	return false
}

// number is n without an end.
func number(n uint64) *big.Int { return new(big.Int).SetUint64(n) }

// bitsOf is how many bits n - 1 has, for n from 1 on.
func bitsOf(n uint64) int { return number(n - 1).BitLen() }

// sumOf is the sum of l, by numbers without an end.
func sumOf(l []uint64) *big.Int {
	sum, one := new(big.Int), new(big.Int)
	for _, s := range l {
		sum.Add(sum, one.SetUint64(s))
	}
	return sum
}

// staked are the places that have a stake.
func staked(l []uint64) []int {
	var out []int
	for i, s := range l {
		if s != 0 {
			out = append(out, i)
		}
	}
	return out
}

// ownerOf is the place whose stake has the ticket, which is below the sum; from behind, unlike what is tested.
func ownerOf(ticket, sum uint64, l []uint64) int {
	found := -1
	for i, s := range slices.Backward(l) {
		sum -= s
		if sum <= ticket && ticket < sum+s {
			found = i
		}
	}
	return found
}

// answer is what the draw of a committee answers: its members, how many bits were read, and the error.
type answer struct {
	members []int
	read    int
	e       api.Errno
}

func refused(e api.Errno) answer { return answer{nil, 0, e} }

// model is the chapter's words of List.
func model(c int, s api.Source, attempts int, l []uint64) answer {
	sum := sumOf(l)
	switch {
	case len(l) > most:
		return refused(api.ErrMany)
	case sum.BitLen() > 63:
		return refused(api.ErrBig)
	case c < 0 || c > 256 || !mayBe(s) || attempts < 1 || attempts > 64:
		return refused(api.ErrArg)
	case len(staked(l)) < c:
		return refused(api.ErrLow)
	}
	r, rest, left := &reader{s: s, at: s.At}, slices.Clone(l), sum.Uint64()
	var members []int
	for range c {
		ticket, e := drawn(r, left, attempts)
		if e != api.OK {
			return answer{nil, int(r.at - s.At), e}
		}
		i := ownerOf(ticket, left, rest)
		members, left = append(members, i), left-rest[i]
		rest[i] = 0
	}
	return answer{members, int(r.at - s.At), api.OK}
}

// drawn is a number below n, by the words of layer 8.
func drawn(r *reader, n uint64, attempts int) (uint64, api.Errno) {
	for range attempts {
		x, ok := r.take(bitsOf(n))
		if !ok {
			return 0, api.ErrBits
		}
		if x < n {
			return x, api.OK
		}
	}
	return 0, api.ErrDraws
}

// tree is the tree of l, by hand; l must have one.
func tree(l []uint64) api.Fen {
	out := make([]uint64, len(l))
	for i := range l {
		for j := i + 1 - ((i + 1) & -(i + 1)); j <= i; j++ {
			out[i] += l[j]
		}
	}
	return api.Fen{Tree: out}
}

// guarded is memory with other values ahead of and in the spare room behind what is handed in.
type guarded[T comparable] struct{ all, was []T }

func guard[T comparable](l []T, other T) guarded[T] {
	fence := slices.Repeat([]T{other}, 40)
	all := slices.Concat(fence, l, fence)
	return guarded[T]{all, slices.Clone(all)}
}

func (g guarded[T]) inner() []T { return g.all[40 : len(g.all)-40] }

func (g guarded[T]) check(t *testing.T, name string) {
	t.Helper()
	if !slices.Equal(g.all, g.was) {
		t.Errorf("%s changed what was handed in", name)
	}
}

// is holds both calls against what they must answer, twice, with guarded memory; Draw where the stakes have a tree.
func is(t *testing.T, c int, s api.Source, attempts int, l []uint64, want answer) {
	t.Helper()
	isList(t, c, s, attempts, l, want)
	if sumOf(l).BitLen() <= 63 && len(l) <= most {
		isTree(t, tree(l), c, s, attempts, l, want)
	}
}

// isList holds List against what it must answer.
func isList(t *testing.T, c int, s api.Source, attempts int, l []uint64, want answer) {
	t.Helper()
	stakes, b := guard(l, 91), guard(s.Tape, 0xa5)
	if s.Tape = b.inner(); len(s.Tape) == 0 {
		s.Tape = nil
	}
	for range 2 {
		members, next, e := List(c, s, attempts, stakes.inner()...)
		if !slices.Equal(members, want.members) || !alike(next, behind(s, want.read)) || e != want.e {
			t.Errorf("List(%d, %v, %d, %v..) of %d = %v, %v, %d, want %v", c, s, attempts, short(l), len(l), members, next, int(e), want)
		}
	}
	stakes.check(t, "List")
	b.check(t, "List")
}

// isTree holds Draw of a tree of the stakes l against what it must answer.
func isTree(t *testing.T, f api.Fen, c int, s api.Source, attempts int, l []uint64, want answer) {
	t.Helper()
	sums, b := guard(f.Tree, 91), guard(s.Tape, 0xa5)
	f.Tree = sums.inner()
	if s.Tape = b.inner(); len(s.Tape) == 0 {
		s.Tape = nil
	}
	for range 2 {
		members, next, e := Draw(f, c, s, attempts)
		if !slices.Equal(members, want.members) || !alike(next, behind(s, want.read)) || e != want.e {
			t.Errorf("Draw(tree of %v.. of %d, %d, %v, %d) = %v, %v, %d, want %v", short(l), len(l), c, s, attempts, members, next, int(e), want)
		}
	}
	sums.check(t, "Draw")
	b.check(t, "Draw")
}

// check holds both calls against the chapter's words, and answers the error.
func check(t *testing.T, c int, s api.Source, attempts int, l []uint64) api.Errno {
	t.Helper()
	want := model(c, s, attempts, l)
	is(t, c, s, attempts, l, want)
	return want.e
}

// count is what Ways tells: a number, or an error.
type count struct {
	ways *big.Int
	e    api.Errno
}

func (c count) String() string { return fmt.Sprintf("%v, %d", c.ways, int(c.e)) }

// waysOf is the chapter's words of Ways, from the first draw on: at[p] is how many beginnings of p bits draw the members that were gone through, and no shorter ones.
func waysOf(members []int, bits, m int, l []uint64) count {
	if len(members) > 16 || bits < 0 || bits > 256 || m < 1 || m > 8 {
		return count{new(big.Int), api.ErrArg}
	}
	if sumOf(l).BitLen() > 63 {
		return count{new(big.Int), api.ErrBig}
	}
	at, rest := []*big.Int{big.NewInt(1)}, slices.Clone(l)
	for _, i := range members {
		if i < 0 || i >= len(rest) || rest[i] == 0 {
			return count{new(big.Int), api.OK}
		}
		sum := sumOf(rest).Uint64()
		k := bitsOf(sum)
		lost, next := new(big.Int).Sub(new(big.Int).Lsh(big.NewInt(1), uint(k)), number(sum)), make([]*big.Int, bits+1)
		for p, n := range at {
			for a := 1; n != nil && a <= m && p+a*k <= bits; a++ {
				ways := new(big.Int).Exp(lost, big.NewInt(int64(a-1)), nil)
				ways.Mul(ways, n).Mul(ways, number(rest[i]))
				if next[p+a*k] != nil {
					ways.Add(ways, next[p+a*k])
				}
				next[p+a*k] = ways
			}
		}
		at, rest[i] = next, 0
	}
	all := new(big.Int)
	for p, n := range at {
		if n != nil {
			all.Add(all, new(big.Int).Lsh(n, uint(bits-p)))
		}
	}
	return count{all, api.OK}
}

// valueOf is the number that the limbs tell.
func valueOf(a api.Nat) *big.Int {
	sum := new(big.Int)
	for i := len(a) - 1; i >= 0; i-- {
		sum.Lsh(sum, 32)
		sum.Add(sum, number(uint64(a[i])))
	}
	return sum
}

// isWays holds Ways against what it must answer, limb by limb, twice, with guarded memory.
func isWays(t *testing.T, members []int, bits, attempts int, l []uint64, want count) {
	t.Helper()
	places, stakes := guard(members, -7), guard(l, 91)
	for range 2 {
		a, e := Ways(places.inner(), bits, attempts, stakes.inner()...)
		if e != want.e || valueOf(a).Cmp(want.ways) != 0 || len(a) != (want.ways.BitLen()+31)/32 {
			t.Errorf("Ways(%v, %d, %d, %v..) of %d = %v, %d, want %v", members, bits, attempts, short(l), len(l), a, int(e), want)
		}
	}
	places.check(t, "Ways")
	stakes.check(t, "Ways")
}

// checkWays holds Ways against the chapter's words, and answers what it must answer.
func checkWays(t *testing.T, members []int, bits, attempts int, l []uint64) count {
	t.Helper()
	want := waysOf(members, bits, attempts, l)
	isWays(t, members, bits, attempts, l, want)
	return want
}

// wrongAttempts are those below 1 and above 64, some whose lowest bits alone would do.
func wrongAttempts() []int {
	return []int{0, -1, -64, math.MinInt32, math.MinInt, 65, 66, 257, 1<<16 + 1, 1 << 32, 1<<32 + 1, math.MaxInt}
}

// wrongSizes are committees below 0 and above 256, some whose lowest bits alone would do.
func wrongSizes() []int {
	return []int{-1, -2, -256, math.MinInt32, math.MinInt, math.MinInt + 1, 257, 258, 512, 1<<16 + 1, 1 << 32, 1<<32 + 1, math.MaxInt}
}

// wrongSources are sources that may not be, for each reason that there is.
func wrongSources() []api.Source {
	b, h := []byte{0, 0x55, 0xff}, seed("wrong")
	return []api.Source{
		{}, {Tape: b, Bits: 24},
		tapeAt(nil, 1, 0), tapeAt(nil, 0, 1), tapeAt(b, 25, 0), tapeAt(b, 1<<61+24, 0), tapeAt(b, math.MaxUint64, 0),
		tapeAt(b, 24, 25), tapeAt(b, 20, 21), tapeAt(b, 24, math.MaxUint64),
		streamAt(h, 9, streamEnd+1), streamAt(h, 9, top), streamAt(h, 9, math.MaxUint64),
		{Kind: 3, Tape: b, Bits: 24, Seed: h, Domain: 9, At: 3}, {Kind: -1, Tape: b, Bits: 24}, {Kind: 1<<32 + 1, Tape: b, Bits: 24}, {Kind: math.MinInt},
	}
}

// rightSources are sources that may be: at their beginnings, ends, and between, with and without values in the fields that don't count.
func rightSources() []api.Source {
	b, h := []byte{0, 0x55, 0xff, 0xa7, 0x3c, 0, 0, 0xff, 0xff, 1}, seed("right")
	return []api.Source{
		tapeAt(nil, 0, 0), tapeAt([]byte{}, 0, 0), tapeAt(b, 0, 0), tapeAt(b, 80, 0), tapeAt(b, 80, 13), tapeAt(b, 80, 79), tapeAt(b, 80, 80), tapeAt(b, 77, 74), tapeAt(b, 9, 8),
		streamAt(h, 9, 0), streamAt(api.Hash{}, math.MaxUint64, 255), streamAt(h, 1<<32+2, 1<<40+13), streamAt(h, 9, streamEnd-64), streamAt(h, 9, streamEnd-1), streamAt(h, 9, streamEnd),
		{Kind: api.SrcTape, Tape: b, Bits: 70, Seed: h, Domain: math.MaxUint64, At: 3},
		{Kind: api.SrcStream, Tape: b, Bits: math.MaxUint64, Seed: h, Domain: 4, At: 100},
	}
}

// manyStakes are stakes of all kinds that have a tree.
func manyStakes() [][]uint64 {
	return [][]uint64{
		nil, {}, {0}, {0, 0, 0}, make([]uint64, 300),
		{1}, {0, 1}, {1, 0}, {0, 0, 1, 0, 0}, {7 << 40}, {0, 0, 7 << 40}, {9, 0, 0, 0, 0, 0, 0, 0, 0}, {0, 0, 0, 0, 0, 0, 0, 0, 5},
		{1, 1}, {2}, {4}, {5}, {8}, {9}, {1, 0, 1}, {2, 1}, {3, 0, 2}, {3, 0, 2, 1}, {3, 0, 2, 5}, {4, 4, 1}, {1, 2, 3, 4, 5, 6, 7, 8, 9},
		{0, 0, 3, 0, 0, 2, 0, 0}, {1 << 32}, {1 << 32, 1}, {1 << 32, 0, 1 << 31},
		{1 << 62}, {1 << 62, 0, 1}, {1 << 61, 1 << 61}, {top - 1}, {1, top - 2}, {top - 2, 1}, {0, 1 << 62, 0, 1<<62 - 1, 0},
		ones(17), ones(64), row(40, 1000), row(100, 1<<55),
	}
}

// tooMuch are rows whose sum is 2^63 or more; of some the lowest 64 bits alone would do.
func tooMuch() [][]uint64 {
	return [][]uint64{
		{top}, {top + 1}, {math.MaxUint64}, {top - 1, 1}, {1, top - 1}, {1, 0, 0, top - 1, 0}, {1 << 62, 1 << 62}, {1 << 62, 1<<62 - 1, 0, 1},
		{top, top}, {top, 0, top, 5}, {math.MaxUint64, 1}, {1, math.MaxUint64}, {math.MaxUint64, 2, 7}, {math.MaxUint64, math.MaxUint64, 2},
		{top - 1, top - 1, 2, 7}, {1 << 62, 1 << 62, 1 << 62, 1 << 62}, {1 << 62, 1 << 62, 1 << 62, 1 << 62, 3},
	}
}

func TestByHand(t *testing.T) { // P17.1
	all := func(read int, members ...int) answer { return answer{members, read, api.OK} }
	failed := func(read int, e api.Errno) answer { return answer{nil, read, e} }
	two, pair, three := []uint64{1, 0, 1}, []uint64{2, 1}, []uint64{3, 2, 1}
	for _, c := range []struct {
		text        string
		c, attempts int
		l           []uint64
		want        answer
	}{
		{"1", 2, 1, two, all(1, 2, 0)},
		{"0", 2, 1, two, all(1, 0, 2)},
		{"1", 1, 1, two, all(1, 2)},
		{"1", 0, 1, two, all(0)},
		{"1", 3, 1, two, refused(api.ErrLow)},
		{"1", 256, 1, two, refused(api.ErrLow)},
		{"1", -1, 1, two, refused(api.ErrArg)},
		{"1", 257, 1, two, refused(api.ErrArg)},
		{"1", 2, 0, two, refused(api.ErrArg)},
		{"1", 3, 65, two, refused(api.ErrArg)},
		{"1", 3, 64, two, refused(api.ErrLow)},
		{"", 2, 1, two, refused(api.ErrBits)},
		{"", 0, 1, nil, all(0)},
		{"", 1, 1, nil, refused(api.ErrLow)},
		{"", 0, 1, []uint64{0, 0}, all(0)},
		{"", 1, 1, []uint64{0, 0}, refused(api.ErrLow)},
		{"", 1, 1, []uint64{0, 0, 1, 0}, all(0, 2)},
		{"10 1", 2, 1, pair, all(3, 1, 0)},
		{"10 0", 2, 1, pair, all(3, 1, 0)},
		{"10", 2, 1, pair, failed(2, api.ErrBits)},
		{"01", 2, 1, pair, all(2, 0, 1)},
		{"11 01", 2, 1, pair, failed(2, api.ErrDraws)},
		{"11 01", 2, 2, pair, all(4, 0, 1)},
		{"11 10 1", 2, 2, pair, all(5, 1, 0)},
		{"11 10", 2, 2, pair, failed(4, api.ErrBits)},
		{"11 1", 2, 2, pair, failed(2, api.ErrBits)},
		{"011 11 00", 3, 1, three, all(7, 1, 2, 0)},
		{"011 10", 3, 1, three, all(5, 1, 0, 2)},
		{"101 011 10", 3, 1, three, all(8, 2, 1, 0)},
		{"101 110 010 1", 3, 2, three, all(10, 2, 0, 1)},
		{"101 110 010", 3, 2, three, failed(9, api.ErrBits)},
		{"011 11 11", 3, 1, three, failed(7, api.ErrDraws)},
		{"011 11 11 10", 3, 2, three, all(9, 1, 2, 0)},
		{"011 11 11 1", 3, 2, three, failed(7, api.ErrBits)},
		{"011 11 1", 3, 1, three, failed(5, api.ErrBits)},
		{"011 1", 3, 1, three, failed(3, api.ErrBits)},
		{"011 1", 1, 1, three, all(3, 1)},
		{"01", 3, 1, three, failed(0, api.ErrBits)},
		{"111 110 011", 3, 2, three, failed(6, api.ErrDraws)},
		{"111 110 011 11 11 11 10", 3, 3, three, all(17, 1, 2, 0)},
		{"111 110 011 11 11 11 11", 3, 3, three, failed(17, api.ErrDraws)},
		{"011", 9, 0, []uint64{1 << 62, 1 << 62}, refused(api.ErrBig)},
	} {
		is(t, c.c, tapeOf(c.text), c.attempts, c.l, c.want)
		is(t, c.c, behind(tapeOf("110"+c.text), 3), c.attempts, c.l, c.want)
	}
}

func TestWhichReason(t *testing.T) { // P17.1: Build's error ahead of ErrArg, that ahead of ErrLow, and that ahead of the draws'; each with the source that belongs to it
	sizes := slices.Concat([]int{0, 1, 2, 3, 17, 18, 256}, wrongSizes())
	attempts := append(wrongAttempts(), 1, 2, 64)
	seen := map[api.Errno]int{}
	for _, l := range slices.Concat(manyStakes(), tooMuch()) {
		for _, s := range slices.Concat(rightSources(), wrongSources()) {
			for _, c := range sizes {
				seen[check(t, c, s, 2, l)]++
			}
			for _, m := range attempts {
				seen[check(t, 1, s, m, l)]++
				seen[check(t, 300, s, m, l)]++
			}
		}
	}
	for _, e := range []api.Errno{api.OK, api.ErrBig, api.ErrArg, api.ErrLow, api.ErrDraws, api.ErrBits} {
		if seen[e] == 0 {
			t.Error("what may come didn't come:", int(e))
		}
	}
}

func TestSizes(t *testing.T) { // P17.1: each number of stakes and each committee about its ends, with stakes of 0 ahead, among and behind
	for _, n := range []int{0, 1, 2, 3, 5, 16, 17, 255, 256, 257, 300} {
		for i, l := range [][]uint64{ones(n), slices.Concat(make([]uint64, 3), ones(n)), slices.Concat(ones(n), make([]uint64, 70)), slices.Concat(ones(n/2), make([]uint64, 9), ones(n-n/2))} {
			for _, c := range []int{-1, 0, 1, n / 2, n - 1, n, n + 1, 255, 256, 257} {
				s := streamAt(seed("sizes"), uint64(i), uint64(n))
				want := model(c, s, 64, l)
				is(t, c, s, 64, l, want)
				switch {
				case c < 0 || c > 256:
					if want.e != api.ErrArg {
						t.Error("the model takes a committee of", c)
					}
				case c > n:
					if want.e != api.ErrLow {
						t.Error("the model finds stakes for a committee of", c, "among", n)
					}
				case len(want.members) != c:
					t.Error("the model draws", want, "for a committee of", c, "of", n)
				}
			}
		}
	}
}

func TestManyStakes(t *testing.T) { // P17.1: of both kinds of source, committees of all that there are
	seen := map[api.Errno]int{}
	for _, s := range rightSources() {
		for _, l := range manyStakes() {
			for c := range min(len(staked(l)), 20) + 2 {
				for _, attempts := range []int{1, 2, 3, 64} {
					seen[check(t, c, s, attempts, l)]++
				}
			}
			for c := 62; c < 67; c++ {
				seen[check(t, c, s, 64, l)]++
			}
		}
	}
	if seen[api.OK] == 0 || seen[api.ErrBits] == 0 || seen[api.ErrDraws] == 0 || seen[api.ErrLow] == 0 {
		t.Error("not all that may come came:", seen)
	}
}

func TestEachSmallTape(t *testing.T) { // P17.1
	for bits := range 9 {
		for v := range 1 << bits {
			text := fmt.Sprintf("%0*b", bits, v)[:bits]
			for _, l := range [][]uint64{{1, 0, 1}, {2, 1}, {3, 2, 1}, {0, 0, 5}, {4, 4, 1}, {1, 1, 1, 0, 1}} {
				for c := range 5 {
					for _, attempts := range []int{1, 2, 64} {
						check(t, c, tapeOf(text), attempts, l)
					}
				}
			}
		}
	}
}

// bitsText is the digits of x, k of them.
func bitsText(x uint64, k int) string { return fmt.Sprintf("%0*b", k, x)[:k] }

func TestLostAttempts(t *testing.T) { // P17.1: at the first draw and at each later one, the attempts of each number, the 64th too, and not one more
	l := []uint64{5, 0, 3, 1, 7, 0, 3}
	order := []int{4, 2, 6, 0}
	for at := range order {
		text, rest := "", slices.Clone(l)
		for _, i := range order[:at] {
			text += bitsText(sumOf(rest[:i]).Uint64(), bitsOf(sumOf(rest).Uint64()))
			rest[i] = 0
		}
		sum := sumOf(rest).Uint64()
		k := bitsOf(sum)
		if sum == 1<<k {
			t.Fatal("no attempt is lost among", rest)
		}
		ticket := bitsText(sumOf(rest[:order[at]]).Uint64(), k)
		for _, lost := range []int{1, 2, 63, 64} {
			losses := text + strings.Repeat("1", lost*k)
			read := len(losses)
			s := behind(tapeOf("10"+losses+ticket), 2)
			for _, shorter := range []uint64{0, 1, uint64(k)} {
				less := s
				less.Bits -= shorter
				is(t, at+1, less, lost, l, answer{nil, read, api.ErrDraws})
				if lost == 64 {
					continue
				}
				want := answer{order[:at+1], read + k, api.OK}
				if shorter > 0 {
					want = answer{nil, read, api.ErrBits}
				}
				is(t, at+1, less, lost+1, l, want)
				is(t, at+1, less, 64, l, want)
				is(t, len(order)+1, less, lost+1, l, model(len(order)+1, less, lost+1, l))
			}
		}
	}
}

func TestTapeEnds(t *testing.T) { // P17.1: at each bit of a whole committee
	for _, l := range [][]uint64{{3, 2, 1}, {1, 0, 1}, {5, 0, 3, 1, 6, 0, 2}, ones(9), row(12, 1<<40), {1 << 61, 1, 1 << 60, 1 << 62}} {
		c, r := len(staked(l)), &reader{s: streamAt(seed("tape ends"), 3, 0)}
		text := ""
		for range 2000 {
			x, _ := r.take(1)
			text += bitsText(x, 1)
		}
		whole := model(c, tapeOf(text), 64, l)
		if whole.e != api.OK {
			t.Fatal(whole)
		}
		for end := range whole.read + 2 {
			s := tapeOf(text)
			s.Bits = uint64(end)
			if e := check(t, c, s, 64, l); (e == api.OK) != (end >= whole.read) {
				t.Errorf("of %v, %d of %d bits: %d", l, end, whole.read, int(e))
			}
		}
	}
}

func TestOneStakeLeft(t *testing.T) { // P17.1: a draw of a stake of 1 alone takes no bits, of a greater one those that it has
	for _, stake := range []uint64{1, 2, 3, 4, 5, 255, 256, 257, 7 << 40, 1 << 62, top - 2} {
		k, both := bitsOf(stake), bitsOf(stake+1)
		for n := range 18 {
			for i := range n {
				l := make([]uint64, n)
				l[i] = stake
				is(t, 1, tapeOf(strings.Repeat("0", k)), 1, l, answer{[]int{i}, k, api.OK})
				if k > 0 {
					is(t, 1, tapeOf(strings.Repeat("0", k-1)), 64, l, refused(api.ErrBits))
				}
				l = slices.Insert(l, 0, 1)
				is(t, 2, tapeOf(bitsText(1, both)), 1, l, answer{[]int{i + 1, 0}, both, api.OK})
				is(t, 2, tapeOf(bitsText(0, both)+bitsText(stake-1, k)), 1, l, answer{[]int{0, i + 1}, both + k, api.OK})
			}
		}
	}
	is(t, 1, streamAt(seed("one"), 1, streamEnd), 1, []uint64{0, 1}, answer{[]int{1}, 0, api.OK})
}

func TestGreatSums(t *testing.T) { // P17.1
	one, none := strings.Repeat("1", 62), strings.Repeat("0", 62)
	for _, c := range []struct {
		text        string
		c, attempts int
		l           []uint64
		want        answer
	}{
		{one + "0", 2, 1, []uint64{top - 2, 1}, answer{nil, 63, api.ErrBits}},
		{one + "0" + one + "0", 2, 1, []uint64{top - 2, 1}, answer{nil, 126, api.ErrDraws}},
		{one + "0" + one[1:] + "01", 2, 1, []uint64{top - 2, 1}, answer{[]int{1, 0}, 126, api.OK}},
		{none + "1", 2, 1, []uint64{top - 2, 1}, answer{[]int{0, 1}, 63, api.OK}},
		{one + "1", 2, 1, []uint64{top - 2, 1}, answer{nil, 63, api.ErrDraws}},
		{one + one, 2, 1, []uint64{1 << 61, 0, 1 << 61}, answer{[]int{2, 0}, 123, api.OK}},
		{"0" + one[1:] + one, 2, 1, []uint64{1 << 61, 0, 1 << 61}, answer{[]int{0, 2}, 123, api.OK}},
		{"1" + none + none, 2, 1, []uint64{1 << 62, 0, 1}, answer{[]int{2, 0}, 125, api.OK}},
	} {
		is(t, c.c, tapeOf(c.text), c.attempts, c.l, c.want)
	}
}

func TestStreamAsATape(t *testing.T) { // P17.1: a stream draws as a tape of its bits, committee behind committee
	for _, l := range manyStakes() {
		c := len(staked(l))
		ofStream := streamAt(seed("stream"), 7, 0)
		r, b := &reader{s: ofStream}, make([]byte, 20*max(c, 1)*3*8)
		for i := range b {
			x, _ := r.take(8)
			b[i] = byte(x)
		}
		ofTape, f := tapeAt(b, 8*uint64(len(b)), 0), tree(l)
		for range 20 {
			members, next, e := Draw(f, c, ofStream, 3)
			others, following, e2 := List(c, ofTape, 3, l...)
			if !slices.Equal(members, others) || e != e2 || next.At != following.At {
				t.Errorf("of %v..: of the stream %v, %d, of the tape %v, %d", short(l), members, int(e), others, int(e2))
			}
			ofStream, ofTape = next, following
		}
	}
}

func TestStreamsEnd(t *testing.T) { // P17.1
	seen := map[api.Errno]int{}
	for left := range uint64(200) {
		for _, l := range [][]uint64{{1}, {1, 1}, {3, 0, 2}, {3, 2, 1, 9}, {0, 129}, {1 << 62, 0, 1}, {1, top - 2}} {
			for _, attempts := range []int{1, 2, 64} {
				seen[check(t, len(staked(l)), streamAt(seed("end"), 9, streamEnd-left), attempts, l)]++
			}
		}
	}
	if seen[api.OK] == 0 || seen[api.ErrDraws] == 0 || seen[api.ErrBits] == 0 {
		t.Error("not all that may come came:", seen)
	}
}

func TestTreesOfLayer11(t *testing.T) { // P17.1: also of trees that were set and grown
	for n := range 40 {
		l := row(n, 1<<20)
		built, e := fen.Build(l...)
		if e != api.OK {
			t.Fatal(e)
		}
		grown, set := api.Fen{}, tree(slices.Repeat([]uint64{5}, n))
		for i, stake := range l {
			grown, _ = fen.Grow(grown, stake)
			set, _ = fen.Set(set, i, stake)
		}
		c := len(staked(l))
		for _, size := range []int{0, 1, c / 2, c, c + 1} {
			s := streamAt(seed("trees"), uint64(n), uint64(size))
			want := model(size, s, 9, l)
			for _, f := range []api.Fen{built, grown, set} {
				isTree(t, f, size, s, 9, l, want)
			}
		}
	}
}

func TestMany(t *testing.T) { // P17.1
	l := slices.Repeat([]uint64{1 << 43, 0, 1 << 44, 1 << 43}, most/4)
	l[most-1]--
	f, e := fen.Build(l...)
	if e != api.OK {
		t.Fatal(e)
	}
	for c, s := range map[int]api.Source{256: streamAt(seed("many"), 5, 1000), 9: streamAt(seed("many"), 6, 0), 2: tapeOf(strings.Repeat("1", 62) + "0" + strings.Repeat("1", 63))} {
		want := model(c, s, 64, l)
		isTree(t, f, c, s, 64, l, want)
		isList(t, c, s, 64, l, want)
	}
	more := ones(most + 1)
	isList(t, 1, streamAt(seed("many"), 5, 7), 1, more, refused(api.ErrMany))
	isList(t, -1, api.Source{}, 0, more, refused(api.ErrMany))
	more[0], more[9] = top, top
	isList(t, 1, tapeOf("101"), 1, more, refused(api.ErrMany))
	clear(more)
	isList(t, 0, tapeOf("101"), 1, more, refused(api.ErrMany))
	isList(t, 1, tapeOf("101"), 1, more[:most], refused(api.ErrLow))
	isList(t, 0, tapeOf("101"), 1, more[:most], refused(api.OK))
	more[most-1] = 1
	isList(t, 1, tapeOf("101"), 1, more[:most], answer{[]int{most - 1}, 0, api.OK})
	isList(t, 2, tapeOf("101"), 1, more[:most], refused(api.ErrLow))
}

func TestUnlike(t *testing.T) { // P17.2: members are unlike, and each has a stake
	for n := range 60 {
		for _, bound := range []uint64{2, 3, 10, 1 << 30} {
			l := row(n, bound)
			with := staked(l)
			for c := range len(with) + 1 {
				members, _, e := List(c, streamAt(seed("unlike"), bound, uint64(n)), 64, l...)
				if e != api.OK || len(members) != c {
					t.Fatalf("of %v..: %v, %d", short(l), members, int(e))
				}
				sorted := slices.Clone(members)
				slices.Sort(sorted)
				for i, member := range sorted {
					if i > 0 && member == sorted[i-1] || !slices.Contains(with, member) {
						t.Errorf("of %v..: %v", short(l), members)
					}
				}
				if c == len(with) && !slices.Equal(sorted, with) {
					t.Errorf("of %v..: %v aren't all", short(l), members)
				}
			}
		}
	}
}

func TestBeginnings(t *testing.T) { // P17.2: a smaller committee is the greater one's beginning, by the same bits; the others are drawn of what it left
	for _, l := range manyStakes() {
		with := min(len(staked(l)), 30)
		for _, s := range []api.Source{streamAt(seed("beginnings"), 8, 0), streamAt(seed("beginnings"), 9, 77)} {
			all, end, e := List(with, s, 64, l...)
			if e != api.OK {
				t.Fatalf("of %v..: %d", short(l), int(e))
			}
			rest, from := slices.Clone(l), s
			for c := range with + 1 {
				members, next, e := List(c, s, 64, l...)
				if e != api.OK || !slices.Equal(members, all[:c]) || !alike(next, from) {
					t.Fatalf("of %v.., %d: %v, at %d, %d, want %v, at %d", short(l), c, members, next.At, int(e), all[:c], from.At)
				}
				others, last, e := List(with-c, next, 64, rest...)
				if e != api.OK || !slices.Equal(others, all[c:]) || !alike(last, end) {
					t.Errorf("of %v.., behind %d: %v, at %d, %d, want %v, at %d", short(rest), c, others, last.At, int(e), all[c:], end.At)
				}
				if c == with {
					break
				}
				member, behind, e := lead.List(next, 64, rest...)
				if e != api.OK || member != all[c] {
					t.Fatalf("of %v..: %d leads, %d, want %d", short(rest), member, int(e), all[c])
				}
				rest, _ = scan.Without(member, rest...)
				from = behind
			}
		}
	}
}

func TestWaysByHand(t *testing.T) { // P17.1
	for _, c := range []struct {
		members     []int
		bits, tries int
		l           []uint64
		want        string
	}{
		{nil, 0, 1, nil, "1"}, {nil, 5, 8, nil, "32"}, {nil, 5, 1, []uint64{0, 7}, "32"},
		{[]int{2, 0}, 1, 1, []uint64{1, 0, 1}, "1"}, {[]int{0, 2}, 1, 1, []uint64{1, 0, 1}, "1"}, {[]int{2, 0}, 3, 1, []uint64{1, 0, 1}, "4"}, {[]int{2, 0}, 0, 1, []uint64{1, 0, 1}, "0"},
		{[]int{0}, 6, 2, []uint64{3, 0, 2}, "33"}, {[]int{2}, 6, 2, []uint64{3, 0, 2}, "22"}, {[]int{0}, 5, 2, []uint64{3, 0, 2}, "12"}, {[]int{0}, 2, 2, []uint64{3, 0, 2}, "0"}, {[]int{0}, 7, 2, []uint64{3, 0, 2}, "66"},
		{[]int{0, 1}, 2, 1, []uint64{2, 1}, "2"}, {[]int{1, 0}, 2, 1, []uint64{2, 1}, "0"}, {[]int{1, 0}, 3, 1, []uint64{2, 1}, "2"}, {[]int{0, 1}, 4, 2, []uint64{2, 1}, "10"},
		// at once by two bits of three, with two bits to spare, 8; behind a lost attempt 2
		{[]int{1, 0}, 5, 2, []uint64{2, 1}, "10"},
		{[]int{0}, 0, 1, []uint64{1}, "1"}, {[]int{0}, 0, 8, []uint64{1}, "1"}, {[]int{1}, 0, 8, []uint64{1}, "0"}, {[]int{0}, 1, 1, []uint64{1}, "2"},
		{[]int{0}, 256, 8, []uint64{1}, "115792089237316195423570985008687907853269984665640564039457584007913129639936"},
		{[]int{0, 1, 2}, 2, 1, []uint64{1, 1, 1}, "0"}, {[]int{0, 1, 2}, 3, 1, []uint64{1, 1, 1}, "1"}, {[]int{0, 1, 2}, 5, 2, []uint64{1, 1, 1}, "5"},
	} {
		ways, ok := new(big.Int).SetString(c.want, 10)
		if !ok {
			t.Fatal(c.want)
		}
		isWays(t, c.members, c.bits, c.tries, c.l, count{ways, api.OK})
	}
}

// wrongBits are those below 0 and above 256.
func wrongBits() []int {
	return []int{-1, -2, -256, math.MinInt32, math.MinInt, 257, 258, 512, 8191, 1<<16 + 1, 1 << 32, 1<<32 + 1, math.MaxInt}
}

// wrongTries are attempts below 1 and above 8.
func wrongTries() []int {
	return []int{0, -1, -8, math.MinInt32, math.MinInt, 9, 10, 16, 64, 257, 1 << 32, 1<<32 + 1, math.MaxInt}
}

// upTo is the numbers from 0 to below n.
func upTo(n int) []int {
	out := make([]int, n)
	for i := range out {
		out[i] = i
	}
	return out
}

func TestWaysWrongArguments(t *testing.T) { // P17.1: ErrArg ahead of Total's error, and of members who can't be
	wrong, great := count{new(big.Int), api.ErrArg}, count{new(big.Int), api.ErrBig}
	lists := [][]int{nil, {}, {0}, {2, 0}, {0, 0}, {1}, {-1}, {3}, {300}, upTo(16)}
	rows := slices.Concat(manyStakes(), tooMuch())
	for _, l := range rows {
		for _, members := range lists {
			for _, bits := range wrongBits() {
				isWays(t, members, bits, 1, l, wrong)
				isWays(t, members, bits, 0, l, wrong)
			}
			for _, tries := range wrongTries() {
				isWays(t, members, 0, tries, l, wrong)
				isWays(t, members, 256, tries, l, wrong)
			}
		}
		for _, n := range []int{17, 18, 32, 257, 1000} {
			isWays(t, upTo(n), 3, 1, l, wrong)
			isWays(t, make([]int, n), 256, 8, l, wrong)
			isWays(t, slices.Repeat([]int{-1}, n), -1, 9, l, wrong)
		}
	}
	for _, l := range tooMuch() {
		for _, members := range lists {
			isWays(t, members, 0, 1, l, great)
			isWays(t, members, 256, 8, l, great)
		}
	}
}

func TestWaysOfOthers(t *testing.T) { // P17.1: none, if a member is no place, or one twice, or has no stake, wherever it stands among the others
	l := []uint64{3, 0, 2, 1, 0, 5, 1, 1, 1, 1, 1, 1, 1, 1, 1, 1, 1, 1}
	none := count{new(big.Int), api.OK}
	good := []int{0, 2, 3, 5, 6, 7, 8, 9, 10, 11, 12, 13, 14, 15, 16, 17}
	for n := range 16 {
		if ways := checkWays(t, good[:n], 256, 8, l); ways.ways.Sign() == 0 {
			t.Error("no ways for", good[:n])
		}
		for at := range n + 1 {
			others := []int{1, 4, -1, -2, 18, 19, 1 << 32, 1<<32 + 2, math.MinInt, math.MaxInt}
			if n > 0 {
				others = append(others, good[0], good[n-1], good[n/2])
			}
			for _, other := range others {
				isWays(t, slices.Insert(slices.Clone(good[:n]), at, other), 256, 8, l, none)
			}
		}
	}
	for _, l := range [][]uint64{nil, {0}, {0, 0}} {
		for _, i := range []int{-1, 0, 1, 2} {
			isWays(t, []int{i}, 9, 2, l, none)
		}
	}
}

func TestWaysOfMany(t *testing.T) { // P17.1: all numbers of members, bits and attempts about their ends, and stakes of all kinds
	rows := append(manyStakes(), ones(18), slices.Repeat([]uint64{5, 0}, 17), slices.Repeat([]uint64{1<<58 + 1}, 17), row(60, 7))
	for _, l := range rows {
		with := staked(l)
		for _, n := range []int{0, 1, 2, 3, 15, 16} {
			if n > len(with) {
				continue
			}
			members := slices.Clone(with[len(with)-n:])
			for range 2 {
				for _, bits := range []int{0, 1, 2, 3, 7, 31, 32, 33, 64, 65, 128, 200, 255, 256} {
					for _, tries := range []int{1, 2, 7, 8} {
						checkWays(t, members, bits, tries, l)
					}
				}
				slices.Reverse(members)
			}
		}
	}
}

func TestWaysOfManyStakes(t *testing.T) { // P17.1: Total has no bound of how many
	l := ones(most + 3)
	l[7], l[9] = 0, 5
	for _, members := range [][]int{nil, {most + 2, 9, 0}, {0, 7}, {most + 3}} {
		checkWays(t, members, 70, 3, l)
	}
}

func TestCounts(t *testing.T) { // P17.3: of all tapes of so many bits, drawn one by one, just as many draw each list as its ways
	for _, m := range []int{1, 2, 3} {
		everyRow(3, 4, func(l []uint64) {
			for bits := range 8 {
				for c := range 4 {
					counted(t, l, c, bits, m, -1, len(l))
				}
			}
		})
	}
}

func TestGreaterCounts(t *testing.T) { // P17.3
	for _, x := range []struct {
		l          []uint64
		c, bits, m int
	}{
		{[]uint64{3, 2, 1}, 3, 14, 2}, {[]uint64{5, 0, 3, 1}, 2, 14, 2}, {[]uint64{5, 0, 3, 1}, 3, 13, 8}, {ones(5), 3, 12, 2}, {ones(6), 2, 12, 1},
		{[]uint64{1, 2, 3, 4}, 4, 13, 3}, {[]uint64{9, 1, 7}, 2, 13, 3}, {[]uint64{0, 16, 0, 16, 0}, 2, 12, 1}, {[]uint64{17, 40}, 2, 14, 2}, {ones(4), 4, 12, 8},
	} {
		counted(t, x.l, x.c, x.bits, x.m, 0, len(x.l)-1)
	}
}

// counted counts which committees of c all tapes of so many bits draw, and holds the ways of each list of c numbers from the first to the last one against that.
func counted(t *testing.T, l []uint64, c, bits, m, first, last int) {
	t.Helper()
	f, drawn := tree(l), map[string]int64{}
	for v := range uint64(1) << bits {
		var b [8]byte
		head := v << (63 - bits) << 1
		binary.BigEndian.PutUint64(b[:], head)
		members, next, e := Draw(f, c, tapeAt(b[:], uint64(bits), 0), m)
		if e != api.OK {
			continue
		}
		drawn[fmt.Sprint(members)]++
		// With other bits behind those that were read, the same is drawn: no more are read.
		binary.BigEndian.PutUint64(b[:], head|math.MaxUint64>>next.At)
		others, last, e := List(c, tapeAt(b[:], 64, 0), m, l...)
		if e != api.OK || !slices.Equal(others, members) || last.At != next.At {
			t.Errorf("of %v, the tape %b: %v, with more bits %v, %d", l, v, members, others, int(e))
		}
	}
	for _, members := range everyOrder(c, first, last) {
		isWays(t, members, bits, m, l, count{big.NewInt(drawn[fmt.Sprint(members)]), api.OK})
	}
}

func TestWaysAsLead(t *testing.T) { // P17.3: one member's are what layer 16 tells of who leads, for each bit more twice as many
	for _, l := range manyStakes() {
		with := staked(l)
		for _, i := range short(with) {
			for m := 1; m <= 8; m++ {
				bits := m * bitsOf(sumOf(l).Uint64())
				ways, e := odds.Lead(i, m, l...)
				if e != api.OK {
					t.Fatal(int(e))
				}
				for more := 0; more <= 3 && bits+more <= 256; more++ {
					isWays(t, []int{i}, bits+more, m, l, count{new(big.Int).Lsh(valueOf(ways), uint(more)), api.OK})
				}
			}
		}
	}
}

func TestWaysTogether(t *testing.T) { // P17.3: where no attempt is lost, all committees together are drawn by all tapes
	for _, x := range []struct {
		l       []uint64
		c, bits int
	}{{[]uint64{1, 0, 1}, 2, 1}, {[]uint64{1, 0, 1}, 1, 40}, {[]uint64{4, 2, 0, 1, 1}, 1, 3}, {[]uint64{1 << 20, 0, 1 << 20}, 2, 41}, {[]uint64{1 << 61, 1 << 61}, 2, 256}} {
		all := new(big.Int)
		for _, members := range everyOrder(x.c, 0, len(x.l)-1) {
			a, e := Ways(members, x.bits, 1, x.l...)
			if e != api.OK {
				t.Fatal(int(e))
			}
			all.Add(all, valueOf(a))
		}
		if all.Cmp(new(big.Int).Lsh(big.NewInt(1), uint(x.bits))) != 0 {
			t.Errorf("of %v, %d bits: %v tapes in all", x.l, x.bits, all)
		}
	}
}

func TestNewMemory(t *testing.T) { // P17.1: who writes into an answer changes no other one
	l, s := []uint64{3, 0, 2, 5, 1}, streamAt(seed("memory"), 1, 0)
	f := tree(l)
	first, _, _ := Draw(f, 4, s, 64)
	was := slices.Clone(first)
	second, _, _ := Draw(f, 4, s, 64)
	for i := range first {
		first[i] = -1
	}
	third, _, _ := List(4, s, 64, l...)
	if !slices.Equal(second, was) || !slices.Equal(third, was) {
		t.Error("members share memory:", second, third, was)
	}
	for _, members := range [][]int{nil, {0}, {3, 0}} {
		a, _ := Ways(members, 100, 2, l...)
		b, _ := Ways(members, 100, 2, l...)
		value := valueOf(a)
		for i := range a {
			a[i] = 7
		}
		c, _ := Ways(members, 100, 2, l...)
		if valueOf(b).Cmp(value) != 0 || valueOf(c).Cmp(value) != 0 {
			t.Error("numbers share memory:", b, c)
		}
	}
}
