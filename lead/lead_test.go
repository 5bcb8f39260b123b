package lead

import (
	"bytes"
	"crypto/sha256"
	"encoding/binary"
	"fmt"
	"math"
	"math/big"
	"slices"
	"strconv"
	"strings"
	"testing"

	"drawlot/api"
	"drawlot/fen"
)

const (
	top  = 1 << 63
	most = 1 << 20

	// streamEnd is the number behind the last one of a stream's bits.
	streamEnd = 1 << 62
)

// mixed are numbers without a visible order.
type mixed uint64

func (m *mixed) next() uint64 {
	*m = *m*6364136223846793005 + 1442695040888963407
	return uint64(*m) >> 16
}

// row is n stakes below the bound, about a third of them 0.
func row(n int, bound uint64) []uint64 {
	m, l := mixed(uint64(n)*31+bound), make([]uint64, n)
	for i := range l {
		if m.next()%3 != 0 {
			l[i] = m.next() % bound
		}
	}
	return l
}

// everyRow calls do with each row of up to that many stakes below the bound.
func everyRow(length int, bound uint64, do func(l []uint64)) {
	rows := [][]uint64{nil}
	for range length + 1 {
		var longer [][]uint64
		for _, l := range rows {
			do(slices.Clone(l))
			for s := range bound {
				longer = append(longer, slices.Concat(l, []uint64{s}))
			}
		}
		rows = longer
	}
}

// short is the beginning of l.
func short(l []uint64) []uint64 { return l[:min(len(l), 12)] }

func tapeAt(b []byte, bits, at uint64) api.Source {
	return api.Source{Kind: api.SrcTape, Tape: b, Bits: bits, At: at}
}

func streamAt(seed api.Hash, domain, at uint64) api.Source {
	return api.Source{Kind: api.SrcStream, Seed: seed, Domain: domain, At: at}
}

// tapeOf is a tape of these digits; blanks between them don't count.
func tapeOf(text string) api.Source {
	text = strings.ReplaceAll(text, " ", "")
	b := make([]byte, (len(text)+7)/8)
	for i, c := range text {
		if c == '1' {
			b[i/8] |= 128 >> (i % 8)
		}
	}
	return tapeAt(b, uint64(len(text)), 0)
}

// behind is s with so many bits read.
func behind(s api.Source, read int) api.Source {
	s.At += uint64(read)
	return s
}

// alike holds two sources against each other in all fields; a tape that holds nothing may be nil.
func alike(a, b api.Source) bool {
	return a.Kind == b.Kind && bytes.Equal(a.Tape, b.Tape) && a.Bits == b.Bits && a.Seed == b.Seed && a.Domain == b.Domain && a.At == b.At
}

// seed is the hash of a text.
func seed(text string) api.Hash { return sha256.Sum256([]byte(text)) }

// digits is the bytes as text, each as eight digits.
func digits(b []byte) string {
	var text strings.Builder
	for _, c := range b {
		fmt.Fprintf(&text, "%08b", c)
	}
	return text.String()
}

// ahead is the bits of a source that may be, from the next one on, as text: all of a tape, of a stream at least so many, if there are.
func ahead(s api.Source, least int) string {
	if s.Kind == api.SrcTape {
		return digits(s.Tape)[s.At:s.Bits]
	}
	var text strings.Builder
	for i := s.At / 256; text.Len() < least+256 && i < streamEnd/256; i++ {
		b := append([]byte(nil), s.Seed[:]...)
		b = binary.BigEndian.AppendUint64(b, s.Domain)
		b = binary.BigEndian.AppendUint64(b, i)
		block := sha256.Sum256(b)
		text.WriteString(digits(block[:]))
	}
	return text.String()[min(s.At%256, uint64(text.Len())):]
}

// mayBe tells if s may be, by the words of layer 7.
func mayBe(s api.Source) bool {
	switch s.Kind {
	case api.SrcTape:
		bits := new(big.Int).SetUint64(s.Bits)
		return bits.Cmp(big.NewInt(int64(8*len(s.Tape)))) <= 0 && s.At <= s.Bits
	case api.SrcStream:
		return s.At <= streamEnd
	}
	return false
}

// bitsOf is how many bits n - 1 has, for n from 1 on.
func bitsOf(n uint64) int { return new(big.Int).SetUint64(n - 1).BitLen() }

// sumOf is the sum of l, by numbers without an end.
func sumOf(l []uint64) *big.Int {
	sum := new(big.Int)
	for _, s := range l {
		sum.Add(sum, new(big.Int).SetUint64(s))
	}
	return sum
}

// ownerOf is the place whose stake has the ticket, which is below the sum; from behind, unlike what is tested.
func ownerOf(ticket uint64, l []uint64) int {
	found, start := -1, sumOf(l).Uint64()
	for i, s := range slices.Backward(l) {
		start -= s
		if start <= ticket && ticket < start+s {
			found = i
		}
	}
	return found
}

// answer is what a draw answers: who leads, how many bits were read, and the error.
type answer struct {
	place, read int
	e           api.Errno
}

// model is the chapter's words of a draw of the stakes l.
func model(t *testing.T, s api.Source, attempts int, l []uint64) answer {
	t.Helper()
	sum := sumOf(l)
	switch {
	case len(l) > most:
		return answer{0, 0, api.ErrMany}
	case sum.BitLen() > 63:
		return answer{0, 0, api.ErrBig}
	case sum.Sign() == 0:
		return answer{0, 0, api.ErrZero}
	case !mayBe(s) || attempts < 1 || attempts > 64:
		return answer{0, 0, api.ErrArg}
	}
	k, read := bitsOf(sum.Uint64()), 0
	text := ahead(s, attempts*k)
	for range attempts {
		if len(text)-read < k {
			return answer{0, read, api.ErrBits}
		}
		// A nought ahead changes nothing, and makes a number of no digits, too.
		ticket, err := strconv.ParseUint("0"+text[read:][:k], 2, 64)
		if err != nil {
			t.Fatal(err)
		}
		read += k
		if ticket < sum.Uint64() {
			return answer{ownerOf(ticket, l), read, api.OK}
		}
	}
	return answer{0, read, api.ErrDraws}
}

// tree is the tree of l, by hand; l must have one.
func tree(l []uint64) api.Fen {
	out := make([]uint64, len(l))
	for i := range l {
		for j := i + 1 - ((i + 1) & -(i + 1)); j <= i; j++ {
			out[i] += l[j]
		}
	}
	return api.Fen{Tree: out}
}

// guarded is memory with other values ahead of and in the spare room behind what is handed in.
type guarded[T comparable] struct{ all, was []T }

func guard[T comparable](l []T, other T) guarded[T] {
	fence := slices.Repeat([]T{other}, 40)
	all := slices.Concat(fence, l, fence)
	return guarded[T]{all, slices.Clone(all)}
}

func (g guarded[T]) inner() []T { return g.all[40 : len(g.all)-40] }

func (g guarded[T]) check(t *testing.T, name string) {
	t.Helper()
	if !slices.Equal(g.all, g.was) {
		t.Errorf("%s changed what was handed in", name)
	}
}

// is holds both calls against what they must answer, twice, with guarded memory.
func is(t *testing.T, s api.Source, attempts int, l []uint64, want answer) {
	t.Helper()
	isList(t, s, attempts, l, want)
	if sumOf(l).BitLen() <= 63 && len(l) <= most {
		isTree(t, tree(l), s, attempts, l, want)
	}
}

// isList holds List against what it must answer.
func isList(t *testing.T, s api.Source, attempts int, l []uint64, want answer) {
	t.Helper()
	stakes, b := guard(l, 91), guard(s.Tape, 0xa5)
	if s.Tape = b.inner(); len(s.Tape) == 0 {
		s.Tape = nil
	}
	for range 2 {
		place, next, e := List(s, attempts, stakes.inner()...)
		if place != want.place || !alike(next, behind(s, want.read)) || e != want.e {
			t.Errorf("List(%v, %d, %v..) of %d = %d, %v, %d, want %v", s, attempts, short(l), len(l), place, next, int(e), want)
		}
	}
	stakes.check(t, "List")
	b.check(t, "List")
}

// isTree holds Draw of a tree of the stakes l against what it must answer.
func isTree(t *testing.T, f api.Fen, s api.Source, attempts int, l []uint64, want answer) {
	t.Helper()
	sums, b := guard(f.Tree, 91), guard(s.Tape, 0xa5)
	f.Tree = sums.inner()
	if s.Tape = b.inner(); len(s.Tape) == 0 {
		s.Tape = nil
	}
	for range 2 {
		place, next, e := Draw(f, s, attempts)
		if place != want.place || !alike(next, behind(s, want.read)) || e != want.e {
			t.Errorf("Draw(tree of %v.. of %d, %v, %d) = %d, %v, %d, want %v", short(l), len(l), s, attempts, place, next, int(e), want)
		}
	}
	sums.check(t, "Draw")
	b.check(t, "Draw")
}

// check holds both calls against the chapter's words, and answers the error.
func check(t *testing.T, s api.Source, attempts int, l []uint64) api.Errno {
	t.Helper()
	want := model(t, s, attempts, l)
	is(t, s, attempts, l, want)
	return want.e
}

// wrongAttempts are those below 1 and above 64, some whose lowest bits alone would do.
func wrongAttempts() []int {
	return []int{0, -1, -2, -63, -64, -65, math.MinInt32, math.MinInt, math.MinInt + 1, 65, 66, 128, 256, 257, 1<<16 + 1, 1 << 32, 1<<32 + 1, math.MaxInt - 63, math.MaxInt}
}

// wrongSources are sources that may not be, for each reason that there is.
func wrongSources() []api.Source {
	b, h := []byte{0, 0x55, 0xff}, seed("wrong")
	return []api.Source{
		{}, {Tape: b, Bits: 24},
		tapeAt(nil, 1, 0), tapeAt(nil, 0, 1), tapeAt(b, 25, 0), tapeAt(b, 1<<61+24, 0), tapeAt(b, math.MaxUint64, 0),
		tapeAt(b, 24, 25), tapeAt(b, 20, 21), tapeAt(b, 24, math.MaxUint64),
		streamAt(h, 9, streamEnd+1), streamAt(h, 9, top), streamAt(h, 9, math.MaxUint64),
		{Kind: 3, Tape: b, Bits: 24, Seed: h, Domain: 9, At: 3}, {Kind: -1, Tape: b, Bits: 24}, {Kind: 1<<32 + 1, Tape: b, Bits: 24}, {Kind: math.MinInt},
	}
}

// rightSources are sources that may be: at their beginnings, ends, and between, with and without values in the fields that don't count.
func rightSources() []api.Source {
	b, h := []byte{0, 0x55, 0xff, 0xa7, 0x3c, 0, 0, 0xff, 0xff, 1}, seed("right")
	return []api.Source{
		tapeAt(nil, 0, 0), tapeAt([]byte{}, 0, 0), tapeAt(b, 0, 0), tapeAt(b, 80, 0), tapeAt(b, 80, 13), tapeAt(b, 80, 79), tapeAt(b, 80, 80), tapeAt(b, 77, 74), tapeAt(b, 9, 8),
		streamAt(h, 9, 0), streamAt(api.Hash{}, math.MaxUint64, 255), streamAt(h, 1<<32+2, 1<<40+13), streamAt(h, 9, streamEnd-64), streamAt(h, 9, streamEnd-1), streamAt(h, 9, streamEnd),
		{Kind: api.SrcTape, Tape: b, Bits: 70, Seed: h, Domain: math.MaxUint64, At: 3},
		{Kind: api.SrcStream, Tape: b, Bits: math.MaxUint64, Seed: h, Domain: 4, At: 100},
	}
}

// rightStakes are stakes of all kinds that the chapter names, whose sum is above 0.
func rightStakes() [][]uint64 {
	return [][]uint64{
		{1}, {0, 1}, {1, 0}, {0, 0, 1, 0, 0}, {7 << 40}, {0, 0, 7 << 40}, {9, 0, 0, 0, 0, 0, 0, 0, 0}, {0, 0, 0, 0, 0, 0, 0, 0, 5},
		{1, 1}, {2}, {4}, {5}, {8}, {9}, {3, 0, 2}, {3, 0, 2, 1}, {3, 0, 2, 5}, {4, 4, 1}, {1, 2, 3, 4, 5, 6, 7, 8, 9},
		{0, 0, 3, 0, 0, 2, 0, 0}, {1 << 32}, {1 << 32, 1}, {1 << 32, 0, 1 << 31},
		{1 << 62}, {1 << 62, 0, 1}, {1 << 61, 1 << 61}, {top - 1}, {1, top - 2}, {top - 2, 1}, {0, 1 << 62, 0, 1<<62 - 1, 0},
		slices.Repeat([]uint64{1}, 17), row(40, 1000), row(100, 1<<55),
	}
}

// noStakes are stakes of which each is 0.
func noStakes() [][]uint64 {
	return [][]uint64{nil, {}, {0}, {0, 0}, {0, 0, 0}, make([]uint64, 8), make([]uint64, 1000)}
}

// tooMuch are rows whose sum is 2^63 or more; of some the lowest 64 bits alone would do.
func tooMuch() [][]uint64 {
	return [][]uint64{
		{top}, {top + 1}, {math.MaxUint64}, {top - 1, 1}, {1, top - 1}, {1, 0, 0, top - 1, 0}, {1 << 62, 1 << 62}, {1 << 62, 1<<62 - 1, 0, 1},
		{top, top}, {top, 0, top, 5}, {math.MaxUint64, 1}, {1, math.MaxUint64}, {math.MaxUint64, 2, 7}, {math.MaxUint64, math.MaxUint64, 2},
		{top - 1, top - 1, 2, 7}, {1 << 62, 1 << 62, 1 << 62, 1 << 62}, {1 << 62, 1 << 62, 1 << 62, 1 << 62, 3},
	}
}

func TestByHand(t *testing.T) { // P13.1, P13.3
	for _, c := range []struct {
		text     string
		attempts int
		l        []uint64
		want     answer
	}{
		{"011", 1, []uint64{3, 0, 2}, answer{2, 3, api.OK}},
		{"000", 1, []uint64{3, 0, 2}, answer{0, 3, api.OK}},
		{"010", 1, []uint64{3, 0, 2}, answer{0, 3, api.OK}},
		{"100", 1, []uint64{3, 0, 2}, answer{2, 3, api.OK}},
		{"101", 1, []uint64{3, 0, 2}, answer{0, 3, api.ErrDraws}},
		{"111", 1, []uint64{3, 0, 2}, answer{0, 3, api.ErrDraws}},
		{"111", 2, []uint64{3, 0, 2}, answer{0, 3, api.ErrBits}},
		{"101 011", 2, []uint64{3, 0, 2}, answer{2, 6, api.OK}},
		{"101 001", 2, []uint64{3, 0, 2}, answer{0, 6, api.OK}},
		{"101 01", 2, []uint64{3, 0, 2}, answer{0, 3, api.ErrBits}},
		{"101 110 111 011", 64, []uint64{3, 0, 2}, answer{2, 12, api.OK}},
		{"101 110 111 011", 3, []uint64{3, 0, 2}, answer{0, 9, api.ErrDraws}},
		{"01", 1, []uint64{3, 0, 2}, answer{0, 0, api.ErrBits}},
		{"", 64, []uint64{3, 0, 2}, answer{0, 0, api.ErrBits}},
		{"011", 0, []uint64{3, 0, 2}, answer{0, 0, api.ErrArg}},
		{"011", -1, []uint64{3, 0, 2}, answer{0, 0, api.ErrArg}},
		{"011", 65, []uint64{3, 0, 2}, answer{0, 0, api.ErrArg}},
		{"", 1, []uint64{1}, answer{0, 0, api.OK}},
		{"1", 1, []uint64{0, 0, 1, 0}, answer{2, 0, api.OK}},
		{"", 64, []uint64{0, 1}, answer{1, 0, api.OK}},
		{"0", 1, []uint64{1, 1}, answer{0, 1, api.OK}},
		{"1", 1, []uint64{1, 1}, answer{1, 1, api.OK}},
		{"1", 1, []uint64{0, 1, 0, 0, 1, 0}, answer{4, 1, api.OK}},
		{"0", 1, []uint64{0, 1, 0, 0, 1, 0}, answer{1, 1, api.OK}},
		{"11", 1, []uint64{1, 3}, answer{1, 2, api.OK}},
		{"11", 1, []uint64{3, 1}, answer{1, 2, api.OK}},
		{"11 11 1", 2, []uint64{2, 1}, answer{0, 4, api.ErrDraws}},
		{"11 10 1", 2, []uint64{2, 1}, answer{1, 4, api.OK}},
		{"100", 1, []uint64{2, 2, 1}, answer{2, 3, api.OK}},
		{"011", 1, []uint64{2, 2, 1}, answer{1, 3, api.OK}},
		{"011", 1, nil, answer{0, 0, api.ErrZero}},
		{"011", 0, nil, answer{0, 0, api.ErrZero}},
		{"011", 1, []uint64{0, 0}, answer{0, 0, api.ErrZero}},
		{"", 65, []uint64{0}, answer{0, 0, api.ErrZero}},
		{"011", 1, []uint64{1 << 62, 1 << 62}, answer{0, 0, api.ErrBig}},
		{"011", 0, []uint64{0, top}, answer{0, 0, api.ErrBig}},
	} {
		is(t, tapeOf(c.text), c.attempts, c.l, c.want)
	}
}

func TestGreatSums(t *testing.T) { // P13.1, P13.3
	one, none := strings.Repeat("1", 62), strings.Repeat("0", 62)
	for _, c := range []struct {
		text     string
		attempts int
		l        []uint64
		want     answer
	}{
		{one + "1", 1, []uint64{top - 1}, answer{0, 63, api.ErrDraws}},
		{one + "0", 1, []uint64{0, top - 1}, answer{1, 63, api.OK}},
		{one + "0", 1, []uint64{top - 2, 1}, answer{1, 63, api.OK}},
		{one + "0", 1, []uint64{1, top - 2}, answer{1, 63, api.OK}},
		{"0" + none, 1, []uint64{1, top - 2}, answer{0, 63, api.OK}},
		{none + "1", 1, []uint64{1, top - 2}, answer{1, 63, api.OK}},
		{one[1:] + "01", 1, []uint64{top - 2, 1}, answer{0, 63, api.OK}},
		{one + "1" + one + "0", 2, []uint64{top - 2, 1}, answer{1, 126, api.OK}},
		{one + "1" + one, 2, []uint64{top - 2, 1}, answer{0, 63, api.ErrBits}},
		{one, 1, []uint64{top - 2, 1}, answer{0, 0, api.ErrBits}},
		{one, 1, []uint64{1 << 61, 0, 1 << 61}, answer{2, 62, api.OK}},
		{"0" + one[1:], 1, []uint64{1 << 61, 0, 1 << 61}, answer{0, 62, api.OK}},
		{"1" + none, 1, []uint64{1 << 62, 0, 1}, answer{2, 63, api.OK}},
		{"1" + none[1:] + "1", 1, []uint64{1 << 62, 0, 1}, answer{0, 63, api.ErrDraws}},
	} {
		is(t, tapeOf(c.text), c.attempts, c.l, c.want)
	}
}

func TestNoStake(t *testing.T) { // P13.1: ErrZero ahead of what is wrong with the source or the attempts
	for _, l := range noStakes() {
		for _, s := range slices.Concat(rightSources(), wrongSources()) {
			for _, attempts := range append(wrongAttempts(), 1, 2, 64) {
				is(t, s, attempts, l, answer{0, 0, api.ErrZero})
			}
		}
	}
}

func TestTooMuch(t *testing.T) { // P13.1: ErrBig, and the source as it came
	for _, l := range tooMuch() {
		for _, s := range slices.Concat(rightSources(), wrongSources()) {
			for _, attempts := range append(wrongAttempts(), 1, 64) {
				isList(t, s, attempts, l, answer{0, 0, api.ErrBig})
			}
		}
	}
}

func TestWrongSources(t *testing.T) { // P13.1: ErrArg, and the source as it came
	for _, s := range wrongSources() {
		for _, l := range rightStakes() {
			for _, attempts := range append(wrongAttempts(), 1, 64) {
				is(t, s, attempts, l, answer{0, 0, api.ErrArg})
			}
		}
	}
}

func TestWrongAttempts(t *testing.T) { // P13.1: ErrArg, even where there are too few bits, or none is read
	for _, s := range rightSources() {
		for _, l := range rightStakes() {
			for _, attempts := range wrongAttempts() {
				is(t, s, attempts, l, answer{0, 0, api.ErrArg})
			}
		}
	}
}

func TestManyDraws(t *testing.T) { // P13.1, P13.3: of both kinds of source
	seen := map[api.Errno]int{}
	for _, s := range rightSources() {
		for _, l := range rightStakes() {
			for _, attempts := range []int{1, 2, 3, 64} {
				seen[check(t, s, attempts, l)]++
			}
		}
	}
	if seen[api.OK] == 0 || seen[api.ErrBits] == 0 || seen[api.ErrDraws] == 0 {
		t.Error("not all that may come came:", seen)
	}
}

func TestEachSmallTape(t *testing.T) { // P13.1, P13.3
	for bits := range 8 {
		for v := range 1 << bits {
			text := ""
			if bits > 0 {
				text = fmt.Sprintf("%0*b", bits, v)
			}
			for _, l := range rightStakes()[:22] {
				for _, attempts := range []int{1, 2, 64} {
					check(t, tapeOf(text), attempts, l)
				}
			}
		}
	}
}

func TestBehindLosses(t *testing.T) { // P13.1: the attempts of each number, the 64th too, and not one more
	for _, l := range rightStakes() {
		sum := sumOf(l).Uint64()
		k := bitsOf(sum)
		if sum == 1<<k {
			continue
		}
		last := len(l) - 1
		for l[last] == 0 {
			last--
		}
		ticket := fmt.Sprintf("%0*b", k, sum-1)
		for _, loss := range []string{fmt.Sprintf("%0*b", k, sum), strings.Repeat("1", k)} {
			for _, lost := range []int{1, 2, 63, 64} {
				losses := "101" + strings.Repeat(loss, lost)
				s, less := behind(tapeOf(losses+ticket+"1"), 3), behind(tapeOf(losses+ticket[1:]), 3)
				is(t, s, lost, l, answer{0, lost * k, api.ErrDraws})
				is(t, less, lost, l, answer{0, lost * k, api.ErrDraws})
				if lost == api.MaxAttempts {
					is(t, s, lost+1, l, answer{0, 0, api.ErrArg})
					continue
				}
				is(t, s, lost+1, l, answer{last, (lost + 1) * k, api.OK})
				is(t, s, 64, l, answer{last, (lost + 1) * k, api.OK})
				is(t, less, lost+1, l, answer{0, lost * k, api.ErrBits})
			}
		}
	}
}

func TestJustEnough(t *testing.T) { // P13.1: bits for one attempt, and one bit less
	for _, l := range rightStakes() {
		sum := sumOf(l).Uint64()
		k := bitsOf(sum)
		border := uint64(0)
		for i, stake := range l {
			if stake == 0 {
				continue
			}
			for _, ticket := range []uint64{border, border + stake/2, border + stake - 1} {
				text := ""
				if k > 0 {
					text = fmt.Sprintf("%0*b", k, ticket)
				}
				s := tapeOf(text)
				is(t, s, 1, l, answer{i, k, api.OK})
				is(t, s, 64, l, answer{i, k, api.OK})
				if k > 0 {
					s.Bits--
					is(t, s, 1, l, answer{0, 0, api.ErrBits})
				}
			}
			border += stake
		}
	}
}

func TestOneStake(t *testing.T) { // P13.1: alone, and among places without one, which never lead
	for _, stake := range []uint64{1, 2, 3, 4, 5, 255, 256, 257, 7 << 40, top - 1} {
		for n := range 18 {
			for i := range n {
				l := make([]uint64, n)
				l[i] = stake
				k := bitsOf(stake)
				is(t, tapeOf(strings.Repeat("0", k)), 1, l, answer{i, k, api.OK})
				s := streamAt(seed("one"), uint64(i), 0)
				if want := model(t, s, 64, l); want.place != i || want.e != api.OK {
					t.Error("the model lets another place lead:", i, want)
				}
				check(t, s, 64, l)
			}
		}
	}
}

func TestAboutPowersOfTwo(t *testing.T) { // P13.1: one bit more from one more on
	for i := range 63 {
		for _, c := range []struct {
			sum uint64
			k   int
		}{{1 << i, i}, {1<<i + 1, i + 1}} {
			for _, l := range [][]uint64{{c.sum}, {0, c.sum, 0}, {1, 0, c.sum - 1}, {c.sum / 2, 0, c.sum - c.sum/2}} {
				owner := 0
				for l[owner] == 0 {
					owner++
				}
				is(t, tapeOf(strings.Repeat("0", c.k)), 1, l, answer{owner, c.k, api.OK})
				if c.k > 0 {
					is(t, tapeOf(strings.Repeat("0", c.k-1)), 1, l, answer{0, 0, api.ErrBits})
				}
			}
		}
	}
}

func TestTreesOfLayer11(t *testing.T) { // P13.1, P13.3: also of trees that were set and grown
	for n := range 40 {
		l := row(n, 1<<20)
		built, e := fen.Build(l...)
		if e != api.OK {
			t.Fatal(e)
		}
		grown, set := api.Fen{}, tree(slices.Repeat([]uint64{5}, n))
		for i, stake := range l {
			grown, _ = fen.Grow(grown, stake)
			set, _ = fen.Set(set, i, stake)
		}
		for from := range uint64(6) {
			s := streamAt(seed("trees"), uint64(n), 100*from)
			want := model(t, s, 3, l)
			for _, f := range []api.Fen{built, grown, set} {
				isTree(t, f, s, 3, l, want)
			}
		}
	}
}

func TestMany(t *testing.T) { // P13.1, P13.3
	l := slices.Repeat([]uint64{1 << 43, 0, 1 << 44, 1 << 43}, most/4)
	l[most-1]--
	f, e := fen.Build(l...)
	if e != api.OK {
		t.Fatal(e)
	}
	for _, s := range []api.Source{streamAt(seed("many"), 5, 0), streamAt(seed("many"), 5, 1000), tapeOf(strings.Repeat("1", 62) + "0"), tapeOf(strings.Repeat("1", 62)), tapeOf(strings.Repeat("1", 63))} {
		want := model(t, s, 1, l)
		isTree(t, f, s, 1, l, want)
		isList(t, s, 1, l, want)
	}
	more := slices.Repeat([]uint64{1}, most+1)
	isList(t, streamAt(seed("many"), 5, 7), 1, more, answer{0, 0, api.ErrMany})
	isList(t, api.Source{}, 0, more, answer{0, 0, api.ErrMany})
	more[0], more[9] = top, top
	isList(t, tapeOf("101"), 1, more, answer{0, 0, api.ErrMany})
	clear(more)
	isList(t, tapeOf("101"), 1, more, answer{0, 0, api.ErrMany})
	isList(t, tapeOf("101"), 1, more[:most], answer{0, 0, api.ErrZero})
	more[most-1] = 1
	isList(t, tapeOf("101"), 1, more[:most], answer{most - 1, 0, api.OK})
}

// power is b to the m.
func power(b uint64, m int) *big.Int {
	return new(big.Int).Exp(new(big.Int).SetUint64(b), big.NewInt(int64(m)), nil)
}

// all is of all tapes of so many bits how many let each place lead, and how many nobody; beyond them the tapes have bits that must not be read.
func all(t *testing.T, l []uint64, bits, m int) ([]int64, int64) {
	t.Helper()
	f := tree(l)
	led, nobody := make([]int64, len(l)), int64(0)
	for v := range uint64(1) << bits {
		var b [8]byte
		head := v << (63 - bits) << 1
		binary.BigEndian.PutUint64(b[:], head)
		s := tapeAt(b[:], uint64(bits), 0)
		place, next, e := Draw(f, s, m)
		other, following, e2 := List(s, m, l...)
		if other != place || !alike(following, next) || e2 != e {
			t.Errorf("of %v, the tape %b: by the tree %d, %d, by the list %d, %d", l, v, place, int(e), other, int(e2))
		}
		// With other bits in the room behind, and more of them: no more are read.
		binary.BigEndian.PutUint64(b[:], head|math.MaxUint64>>bits)
		longer, last, e3 := Draw(f, tapeAt(b[:], 64, 0), m)
		if longer != place || last.At != next.At || e3 != e {
			t.Errorf("of %v, the tape %b: %d, %d, and with more bits behind %d, %d", l, v, place, int(e), longer, int(e3))
		}
		switch {
		case e == api.OK && next.At <= uint64(bits):
			led[place]++
		case e == api.ErrDraws && place == 0 && next.At == uint64(bits):
			nobody++
		default:
			t.Errorf("of %v, the tape %b: %d, %v, %d", l, v, place, next, int(e))
		}
	}
	return led, nobody
}

// checkCounts holds the counts over all tapes against the promise's numbers.
func checkCounts(t *testing.T, l []uint64, m int) {
	t.Helper()
	sum := sumOf(l).Uint64()
	k := bitsOf(sum)
	led, nobody := all(t, l, k*m, m)
	wantNobody := power(1<<k-sum, m)
	if wantNobody.Cmp(big.NewInt(nobody)) != 0 {
		t.Errorf("of %v, by %d attempts: nobody leads by %d, want %d", l, m, nobody, wantNobody)
	}
	for i, stake := range l {
		want := new(big.Int).Sub(power(1<<k, m), wantNobody)
		want.Mul(want, new(big.Int).SetUint64(stake))
		want, left := want.DivMod(want, new(big.Int).SetUint64(sum), new(big.Int))
		if left.Sign() != 0 {
			t.Fatal("the chapter's number isn't whole:", l, m)
		}
		if want.Cmp(big.NewInt(led[i])) != 0 {
			t.Errorf("of %v, by %d attempts: the place %d leads by %d, want %d", l, m, i, led[i], want)
		}
	}
}

func TestByStake(t *testing.T) { // P13.2, P13.3
	count := func(l []uint64) {
		sum := sumOf(l)
		if sum.Sign() == 0 {
			return
		}
		k := bitsOf(sum.Uint64())
		for m := 1; m <= 4 && k*m <= 9; m++ {
			checkCounts(t, l, m)
		}
	}
	everyRow(4, 4, count)
	everyRow(7, 2, count)
	for n := range 20 {
		count(row(n+1, 9))
	}
	count([]uint64{0, 511, 0, 1})
	count([]uint64{300, 0, 200})
}

func TestByStakeOfManyAttempts(t *testing.T) { // P13.2, P13.3
	for _, c := range []struct {
		l []uint64
		m int
	}{
		{[]uint64{1}, 64}, {[]uint64{0, 1, 0}, 64}, {[]uint64{1, 1}, 12}, {[]uint64{2, 0, 1}, 6}, {[]uint64{1, 0, 0, 3}, 6}, {[]uint64{3, 0, 2}, 4}, {[]uint64{4, 1, 0, 2}, 4}, {[]uint64{0, 9, 2, 0}, 3}, {[]uint64{20, 0, 5, 8}, 2},
	} {
		checkCounts(t, c.l, c.m)
	}
}

func TestByStakeByHand(t *testing.T) { // P13.2
	for _, c := range []struct {
		l       []uint64
		bits, m int
		led     []int64
		nobody  int64
	}{
		{[]uint64{3, 0, 2}, 6, 2, []int64{33, 0, 22}, 9},
		{[]uint64{3, 0, 2}, 3, 1, []int64{3, 0, 2}, 3},
		{[]uint64{3, 0, 2, 1}, 6, 2, []int64{30, 0, 20, 10}, 4},
		{[]uint64{1}, 0, 1, []int64{1}, 0},
		{[]uint64{0, 1}, 0, 64, []int64{0, 1}, 0},
		{[]uint64{0, 2, 0, 2}, 4, 2, []int64{0, 8, 0, 8}, 0},
		{[]uint64{1, 0, 0, 2}, 6, 3, []int64{21, 0, 0, 42}, 1},
	} {
		led, nobody := all(t, c.l, c.bits, c.m)
		if !slices.Equal(led, c.led) || nobody != c.nobody {
			t.Errorf("of %v, by %d attempts: %v, and nobody by %d, want %v, %d", c.l, c.m, led, nobody, c.led, c.nobody)
		}
	}
}

func TestStreamAsATape(t *testing.T) { // P13.1, P13.3: a stream draws as a tape of its bits, draw behind draw
	for _, l := range rightStakes() {
		ofStream := streamAt(seed("stream"), 7, 0)
		ofTape := tapeOf(ahead(ofStream, 20*3*63))
		f := tree(l)
		for range 20 {
			place, next, e := Draw(f, ofStream, 3)
			other, following, e2 := List(ofTape, 3, l...)
			if place != other || e != e2 || next.At != following.At {
				t.Errorf("of %v..: of the stream %d, %d, of the tape %d, %d", short(l), place, int(e), other, int(e2))
			}
			ofStream, ofTape = next, following
		}
	}
}

func TestDrawBehindDraw(t *testing.T) { // P13.1: each draw goes on where the one ahead ended, whatever came of it
	rows := [][]uint64{{3, 0, 2}, {1, 1}, {0, 0}, {2, 5}, {0, 1}, {top, 1}, {1, 2}, {4, 0, 0, 5}}
	s := tapeOf(strings.Repeat("111 110 100 011 1 0 ", 9))
	for i := range 200 {
		l := rows[i%len(rows)]
		want := model(t, s, 2, l)
		is(t, s, 2, l, want)
		_, next, _ := List(s, 2, l...)
		s = next
	}
	if s.Bits-s.At > 3 {
		t.Error("not all was read:", s)
	}
}

func TestStreamsEnd(t *testing.T) { // P13.1
	seen := map[api.Errno]int{}
	for left := range uint64(130) {
		for _, l := range [][]uint64{{1}, {1, 1}, {3, 0, 2}, {0, 129}, {1 << 62, 0, 1}, {1, top - 2}} {
			for _, attempts := range []int{1, 2, 64} {
				seen[check(t, streamAt(seed("end"), 9, streamEnd-left), attempts, l)]++
			}
		}
	}
	if seen[api.OK] == 0 || seen[api.ErrDraws] == 0 || seen[api.ErrBits] == 0 {
		t.Error("not all that may come came:", seen)
	}
}
