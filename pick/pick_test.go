package pick

import (
	"bytes"
	"crypto/sha256"
	"encoding/binary"
	"fmt"
	"math"
	"math/big"
	"slices"
	"strconv"
	"strings"
	"testing"

	"drawlot/api"
)

const (
	top  = 1 << 63
	most = 1 << 20

	// streamEnd is the number behind the last one of a stream's bits.
	streamEnd = 1 << 62
)

// mixed are numbers without a visible order.
type mixed uint64

func (m *mixed) next() uint64 {
	*m = *m*6364136223846793005 + 1442695040888963407
	return uint64(*m) >> 16
}

// row is n stakes below the bound, about a third of them 0.
func row(n int, bound uint64) []uint64 {
	m, l := mixed(uint64(n)*31+bound), make([]uint64, n)
	for i := range l {
		if m.next()%3 != 0 {
			l[i] = m.next() % bound
		}
	}
	return l
}

// everyRow calls do with each row of up to that many stakes below the bound.
func everyRow(length int, bound uint64, do func(l []uint64)) {
	rows := [][]uint64{nil}
	for range length + 1 {
		var longer [][]uint64
		for _, l := range rows {
			do(slices.Clone(l))
			for s := range bound {
				longer = append(longer, slices.Concat(l, []uint64{s}))
			}
		}
		rows = longer
	}
}

// short is the beginning of l.
func short[T any](l []T) []T { return l[:min(len(l), 12)] }

func tapeAt(b []byte, bits, at uint64) api.Source {
	return api.Source{Kind: api.SrcTape, Tape: b, Bits: bits, At: at}
}

func streamAt(seed api.Hash, domain, at uint64) api.Source {
	return api.Source{Kind: api.SrcStream, Seed: seed, Domain: domain, At: at}
}

// tapeOf is a tape of these digits; blanks between them don't count.
func tapeOf(text string) api.Source {
	text = strings.ReplaceAll(text, " ", "")
	b := make([]byte, (len(text)+7)/8)
	for i, c := range text {
		if c == '1' {
			b[i/8] |= 128 >> (i % 8)
		}
	}
	return tapeAt(b, uint64(len(text)), 0)
}

// digitsOf is the number as just so many digits; as none at all, if that is 0.
func digitsOf(u uint64, count int) string {
	if count == 0 {
		return ""
	}
	return fmt.Sprintf("%0*b", count, u)
}

// behind is s with so many bits read.
func behind(s api.Source, read int) api.Source {
	s.At += uint64(read)
	return s
}

// alike holds two sources against each other in all fields; a tape that holds nothing may be nil.
func alike(a, b api.Source) bool {
	return a.Kind == b.Kind && bytes.Equal(a.Tape, b.Tape) && a.Bits == b.Bits && a.Seed == b.Seed && a.Domain == b.Domain && a.At == b.At
}

// seed is the hash of a text.
func seed(text string) api.Hash { return sha256.Sum256([]byte(text)) }

// digits is the bytes as text, each as eight digits.
func digits(b []byte) string {
	var text strings.Builder
	for _, c := range b {
		fmt.Fprintf(&text, "%08b", c)
	}
	return text.String()
}

// ahead is the bits of a source that may be, from the next one on, as text: all of a tape, of a stream at least so many, if there are.
func ahead(s api.Source, least int) string {
	if s.Kind == api.SrcTape {
		return digits(s.Tape)[s.At:s.Bits]
	}
	var text strings.Builder
	for i := s.At / 256; text.Len() < least+256 && i < streamEnd/256; i++ {
		b := append([]byte(nil), s.Seed[:]...)
		b = binary.BigEndian.AppendUint64(b, s.Domain)
		b = binary.BigEndian.AppendUint64(b, i)
		block := sha256.Sum256(b)
		text.WriteString(digits(block[:]))
	}
	return text.String()[min(s.At%256, uint64(text.Len())):]
}

// readable tells if s may be, by the words of layer 7.
func readable(s api.Source) bool {
	switch s.Kind {
	case api.SrcTape:
		return number(s.Bits).Cmp(big.NewInt(int64(8*len(s.Tape)))) <= 0 && s.At <= s.Bits
	case api.SrcStream:
		return s.At <= streamEnd
	}
	return false
}

// number is n without an end.
func number(n uint64) *big.Int { return new(big.Int).SetUint64(n) }

// bitsOf is how many bits n - 1 has, for n from 1 on.
func bitsOf(n uint64) int { return number(n - 1).BitLen() }

// sumOf is the sum of l, by numbers without an end.
func sumOf(l []uint64) *big.Int {
	sum := new(big.Int)
	for _, s := range l {
		sum.Add(sum, number(s))
	}
	return sum
}

// times is how often the sum stands in a table of so many cells.
func times(n int, sum *big.Int) *big.Int {
	return new(big.Int).Mul(big.NewInt(int64(n)), sum)
}

// laid is layer 14's words of the table of l, which must have one, by lists that are cut anew.
func laid(l []uint64) api.Table {
	sum := sumOf(l).Uint64()
	cells, has := make([]api.Cell, len(l)), make([]uint64, len(l))
	var small, large []int
	sorted := func(i int) {
		if has[i] < sum {
			small = append(small, i)
		} else {
			large = append(large, i)
		}
	}
	for i, s := range l {
		has[i] = s * uint64(len(l))
		sorted(i)
	}
	for len(small) > 0 && len(large) > 0 {
		a, b := small[len(small)-1], large[len(large)-1]
		small, large = small[:len(small)-1], large[:len(large)-1]
		cells[a] = api.Cell{Cut: has[a], Alias: b}
		has[b] = has[b] - sum + has[a]
		sorted(b)
	}
	for _, i := range slices.Concat(small, large) {
		cells[i] = api.Cell{Cut: sum, Alias: i}
	}
	return api.Table{Total: sum, Cells: cells}
}

// cells are the cells of these numbers: a Cut, its Alias, and so on.
func cells(numbers ...uint64) []api.Cell {
	var out []api.Cell
	for pair := range slices.Chunk(numbers, 2) {
		out = append(out, api.Cell{Cut: pair[0], Alias: int(pair[1])})
	}
	return out
}

// sizeOf is the table's size, by the words of layer 14; 0, unless it may be.
func sizeOf(t api.Table) uint64 {
	size := times(len(t.Cells), number(t.Total))
	if size.BitLen() > 63 {
		return 0
	}
	for _, c := range t.Cells {
		if c.Cut > t.Total || c.Alias < 0 || c.Alias > len(t.Cells)-1 {
			return 0
		}
	}
	return size.Uint64()
}

// ownerOf is who owns u, which is below the table's size.
func ownerOf(t api.Table, u uint64) int {
	column, offset := new(big.Int).DivMod(number(u), number(t.Total), new(big.Int))
	i := int(column.Int64())
	if offset.Cmp(number(t.Cells[i].Cut)) < 0 {
		return i
	}
	return t.Cells[i].Alias
}

// answer is what a draw answers: who leads, how many bits were read, and the error.
type answer struct {
	place, read int
	e           api.Errno
}

// drawn is the chapter's words of Draw.
func drawn(t *testing.T, table api.Table, s api.Source, attempts int) answer {
	t.Helper()
	size := sizeOf(table)
	if size == 0 || !readable(s) || attempts < 1 || attempts > 64 {
		return answer{0, 0, api.ErrArg}
	}
	k, read := bitsOf(size), 0
	text := ahead(s, attempts*k)
	for range attempts {
		if len(text)-read < k {
			return answer{0, read, api.ErrBits}
		}
		// A nought ahead changes nothing, and makes a number of no digits, too.
		u, err := strconv.ParseUint("0"+text[read:][:k], 2, 64)
		if err != nil {
			t.Fatal(err)
		}
		read += k
		if u < size {
			return answer{ownerOf(table, u), read, api.OK}
		}
	}
	return answer{0, read, api.ErrDraws}
}

// refused is Build's error, by the words of layer 14.
func refused(l []uint64) api.Errno {
	sum := sumOf(l)
	switch {
	case len(l) == 0:
		return api.ErrZero
	case sum.BitLen() > 63:
		return api.ErrBig
	case sum.Sign() == 0:
		return api.ErrZero
	case times(len(l), sum).BitLen() > 63:
		return api.ErrBig
	}
	return api.OK
}

// listed is the chapter's words of List.
func listed(t *testing.T, s api.Source, attempts int, l []uint64) answer {
	t.Helper()
	if e := refused(l); e != api.OK {
		return answer{0, 0, e}
	}
	return drawn(t, laid(l), s, attempts)
}

// guarded is memory with other values ahead of and in the spare room behind what is handed in.
type guarded[T comparable] struct{ all, was []T }

func guard[T comparable](l []T, other T) guarded[T] {
	fence := slices.Repeat([]T{other}, 40)
	all := slices.Concat(fence, l, fence)
	return guarded[T]{all, slices.Clone(all)}
}

func (g guarded[T]) inner() []T { return g.all[40 : len(g.all)-40] }

func (g guarded[T]) check(t *testing.T, name string) {
	t.Helper()
	if !slices.Equal(g.all, g.was) {
		t.Errorf("%s changed what was handed in", name)
	}
}

// guardTape is the source with its tape in guarded memory.
func guardTape(s api.Source) (api.Source, guarded[byte]) {
	g := guard(s.Tape, 0xa5)
	if s.Tape = g.inner(); len(s.Tape) == 0 {
		s.Tape = nil
	}
	return s, g
}

// isDraw holds Draw against what it must answer, twice, with guarded memory.
func isDraw(t *testing.T, table api.Table, s api.Source, attempts int, want answer) {
	t.Helper()
	// The cells around them might be of the table.
	c := guard(table.Cells, api.Cell{Cut: table.Total / 2})
	table.Cells = c.inner()
	s, b := guardTape(s)
	for range 2 {
		place, next, e := Draw(table, s, attempts)
		if place != want.place || !alike(next, behind(s, want.read)) || e != want.e {
			t.Errorf("Draw(%d, %v.. of %d, %v, %d) = %d, %v, %d, want %v", table.Total, short(table.Cells), len(table.Cells), s, attempts, place, next, int(e), want)
		}
	}
	c.check(t, "Draw")
	b.check(t, "Draw")
}

// isList holds List against what it must answer, twice, with guarded memory.
func isList(t *testing.T, s api.Source, attempts int, l []uint64, want answer) {
	t.Helper()
	stakes := guard(l, 91)
	s, b := guardTape(s)
	for range 2 {
		place, next, e := List(s, attempts, stakes.inner()...)
		if place != want.place || !alike(next, behind(s, want.read)) || e != want.e {
			t.Errorf("List(%v, %d, %v..) of %d = %d, %v, %d, want %v", s, attempts, short(l), len(l), place, next, int(e), want)
		}
	}
	stakes.check(t, "List")
	b.check(t, "List")
}

// is holds both calls against what they must answer, for stakes that have a table.
func is(t *testing.T, s api.Source, attempts int, l []uint64, want answer) {
	t.Helper()
	isList(t, s, attempts, l, want)
	isDraw(t, laid(l), s, attempts, want)
}

// check holds both calls against the chapter's words, for stakes that have a table, and answers the error.
func check(t *testing.T, s api.Source, attempts int, l []uint64) api.Errno {
	t.Helper()
	want := listed(t, s, attempts, l)
	is(t, s, attempts, l, want)
	return want.e
}

// wrongAttempts are those below 1 and above 64, some whose lowest bits alone would do.
func wrongAttempts() []int {
	return []int{0, -1, -2, -63, -64, -65, math.MinInt32, math.MinInt, math.MinInt + 1, 65, 66, 128, 256, 257, 1<<16 + 1, 1 << 32, 1<<32 + 1, math.MaxInt - 63, math.MaxInt}
}

// wrongSources are sources that may not be, for each reason that there is.
func wrongSources() []api.Source {
	b, h := []byte{0, 0x55, 0xff}, seed("wrong")
	return []api.Source{
		{}, {Tape: b, Bits: 24},
		tapeAt(nil, 1, 0), tapeAt(nil, 0, 1), tapeAt(b, 25, 0), tapeAt(b, 1<<61+24, 0), tapeAt(b, math.MaxUint64, 0),
		tapeAt(b, 24, 25), tapeAt(b, 20, 21), tapeAt(b, 24, math.MaxUint64),
		streamAt(h, 9, streamEnd+1), streamAt(h, 9, top), streamAt(h, 9, math.MaxUint64),
		{Kind: 3, Tape: b, Bits: 24, Seed: h, Domain: 9, At: 3}, {Kind: -1, Tape: b, Bits: 24}, {Kind: 1<<32 + 1, Tape: b, Bits: 24}, {Kind: math.MinInt},
	}
}

// rightSources are sources that may be: at their beginnings, ends, and between, with and without values in the fields that don't count.
func rightSources() []api.Source {
	b, h := []byte{0, 0x55, 0xff, 0xa7, 0x3c, 0, 0, 0xff, 0xff, 1}, seed("right")
	return []api.Source{
		tapeAt(nil, 0, 0), tapeAt([]byte{}, 0, 0), tapeAt(b, 0, 0), tapeAt(b, 80, 0), tapeAt(b, 80, 13), tapeAt(b, 80, 79), tapeAt(b, 80, 80), tapeAt(b, 77, 74), tapeAt(b, 9, 8),
		streamAt(h, 9, 0), streamAt(api.Hash{}, math.MaxUint64, 255), streamAt(h, 1<<32+2, 1<<40+13), streamAt(h, 9, streamEnd-64), streamAt(h, 9, streamEnd-1), streamAt(h, 9, streamEnd),
		{Kind: api.SrcTape, Tape: b, Bits: 70, Seed: h, Domain: math.MaxUint64, At: 3},
		{Kind: api.SrcStream, Tape: b, Bits: math.MaxUint64, Seed: h, Domain: 4, At: 100},
	}
}

// fewStakes are short rows that have a table, with stakes of 0 ahead of all, among them and behind all.
func fewStakes() [][]uint64 {
	return [][]uint64{
		{1}, {2}, {5}, {8}, {9}, {0, 1}, {1, 0}, {1, 1}, {3, 1}, {1, 3}, {2, 2, 2}, {4, 0, 3}, {3, 0, 2}, {0, 2, 0, 1}, {1, 5, 0},
		{0, 0, 1, 0, 0}, {0, 0, 3, 0, 0, 2, 0, 0}, {9, 0, 0, 0, 0, 0, 0, 0, 0}, {0, 0, 0, 0, 0, 0, 0, 0, 5}, {1, 2, 3, 4, 5, 6, 7, 8, 9}, {8, 0, 0, 8, 0, 0, 8},
	}
}

// rightStakes are stakes of all kinds that the chapter names, which have a table.
func rightStakes() [][]uint64 {
	return append(fewStakes(),
		[]uint64{7 << 40}, []uint64{0, 0, 7 << 40}, []uint64{1 << 32, 1}, []uint64{1 << 32, 0, 1 << 31},
		[]uint64{top - 1}, []uint64{1 << 62}, []uint64{1<<62 + 1}, []uint64{1 << 61, 1<<61 - 1}, []uint64{1<<62 - 1, 0}, []uint64{0, 1<<62 - 1}, []uint64{1, 1<<62 - 2},
		[]uint64{0, 1 << 60, 0, 1<<60 - 1}, []uint64{1 << 60, 0, 1 << 60}, []uint64{0, 0, 0, (top - 1) / 7, 0, 0, 0}, []uint64{1, 2, 3, 4, 5, 6, (top-1)/7 - 21},
		slices.Repeat([]uint64{1}, 17), slices.Repeat([]uint64{0, 5, 5}, 9), row(40, 1000), row(100, 1<<49), row(256, 3),
	)
}

// noStakes are stakes of which each is 0, or none at all.
func noStakes() [][]uint64 {
	return [][]uint64{nil, {}, {0}, {0, 0}, {0, 0, 0}, make([]uint64, 8), make([]uint64, 1000)}
}

// tooMuch are rows whose sum is 2^63 or more; of some the lowest 64 bits alone would do, or are 0.
func tooMuch() [][]uint64 {
	return [][]uint64{
		{top}, {top + 1}, {math.MaxUint64}, {top - 1, 1}, {1, top - 1}, {1, 0, 0, top - 1, 0}, {1 << 62, 1 << 62}, {1 << 62, 1<<62 - 1, 0, 1},
		{top, top}, {top, 0, top, 5}, {math.MaxUint64, 1}, {1, math.MaxUint64}, {0, math.MaxUint64, 1, 0}, {math.MaxUint64, 2, 7}, {math.MaxUint64, math.MaxUint64, 2},
		{top - 1, top - 1, 2, 7}, {1 << 62, 1 << 62, 1 << 62, 1 << 62}, {1 << 62, 1 << 62, 1 << 62, 1 << 62, 3},
	}
}

// tooWide are rows whose sum is below 2^63, but not so many times it; of some the lowest 64 bits alone would do, or are 0.
func tooWide() [][]uint64 {
	return [][]uint64{
		{1 << 62, 0}, {0, 1 << 62}, {1<<62 - 1, 1}, {1 << 61, 1 << 61}, {top - 1, 0}, {1, top - 2},
		{(top-1)/3 + 1, 0, 0}, {1 << 61, 0, 0, 0}, {1 << 62, 0, 0, 0}, {1 << 62, 1, 0, 0}, {1 << 61, 1<<61 - 1, 1 << 61, 1 << 61},
		{(top-1)/7 + 1, 0, 0, 0, 0, 0, 0}, {top - 1, 0, 0, 0, 0, 0, 0, 0}, append([]uint64{1 << 60, 7}, make([]uint64, 14)...),
	}
}

// wrongTables are tables that may not be, for each reason that there is; of some the lowest 64 bits alone would do.
func wrongTables() []api.Table {
	good := laid([]uint64{3, 1, 0, 4})
	withTotal := func(total uint64) api.Table { return api.Table{Total: total, Cells: slices.Clone(good.Cells)} }
	withCell := func(i int, c api.Cell) api.Table {
		bad := slices.Clone(good.Cells)
		bad[i] = c
		return api.Table{Total: good.Total, Cells: bad}
	}
	out := []api.Table{
		{}, {Total: 8}, {Total: 8, Cells: []api.Cell{}}, {Total: top - 1}, {Cells: []api.Cell{{}}}, {Cells: []api.Cell{{}, {Alias: 1}}}, {Cells: make([]api.Cell, 4)},
		withTotal(0), withTotal(7), withTotal(1 << 61), withTotal(1 << 62), withTotal(1<<62 + 8), withTotal(top), withTotal(math.MaxUint64),
		{Total: top, Cells: []api.Cell{{Cut: top}}}, {Total: top, Cells: []api.Cell{{}}}, {Total: math.MaxUint64, Cells: []api.Cell{{Cut: 1}}},
		{Total: (top-1)/7 + 1, Cells: make([]api.Cell, 7)}, {Total: 1, Cells: cells(2, 0)}, {Total: 1, Cells: cells(1, 1)}, {Total: 1, Cells: []api.Cell{{Cut: 1, Alias: -1}}},
	}
	for i, c := range good.Cells {
		for _, cut := range []uint64{9, 10, top, math.MaxUint64, 1<<32 + 2} {
			out = append(out, withCell(i, api.Cell{Cut: cut, Alias: c.Alias}))
		}
		for _, other := range []int{-1, -2, -4, 4, 5, math.MinInt, math.MaxInt, 1 << 32, 1<<32 + 1, -1 << 32, math.MinInt + 1} {
			out = append(out, withCell(i, api.Cell{Cut: c.Cut, Alias: other}), withCell(i, api.Cell{Cut: 8, Alias: other}))
		}
	}
	return out
}

// otherTables are tables that may be, and are such as Build never lays.
func otherTables() []api.Table {
	c := uint64((top - 1) / 7)
	return []api.Table{
		{Total: 1, Cells: cells(0, 0)}, {Total: 2, Cells: cells(0, 0)}, {Total: 3, Cells: cells(1, 0)}, {Total: 1, Cells: cells(0, 1, 0, 0)}, {Total: 1, Cells: cells(1, 1, 1, 0)},
		{Total: 4, Cells: cells(1, 1, 3, 0)}, {Total: 5, Cells: cells(0, 2, 5, 2, 2, 1)}, {Total: 2, Cells: cells(1, 1, 1, 2, 1, 0)}, {Total: 3, Cells: cells(3, 2, 3, 2, 0, 1)},
		{Total: 8, Cells: cells(8, 3, 0, 1, 8, 0, 7, 3)}, {Total: 7, Cells: make([]api.Cell, 5)},
		{Total: top - 1, Cells: cells(0, 0)}, {Total: c, Cells: make([]api.Cell, 7)}, {Total: c, Cells: slices.Repeat(cells(c-1, 6), 7)}, {Total: 1<<62 - 1, Cells: cells(1<<62-1, 1, 1, 0)},
	}
}

// rightTables are tables that may be, of stakes and others.
func rightTables() []api.Table {
	out := otherTables()
	for _, l := range rightStakes() {
		out = append(out, laid(l))
	}
	return out
}

func TestListByHand(t *testing.T) { // P15.1
	for _, c := range []struct {
		text     string
		attempts int
		l        []uint64
		want     answer
	}{
		{"101", 1, []uint64{3, 1}, answer{1, 3, api.OK}},
		{"000", 1, []uint64{3, 1}, answer{0, 3, api.OK}},
		{"011", 1, []uint64{3, 1}, answer{0, 3, api.OK}},
		{"100", 1, []uint64{3, 1}, answer{1, 3, api.OK}},
		{"110", 1, []uint64{3, 1}, answer{0, 3, api.OK}},
		{"111 101", 2, []uint64{3, 1}, answer{0, 3, api.OK}},
		{"10", 1, []uint64{3, 1}, answer{0, 0, api.ErrBits}},
		{"", 64, []uint64{3, 1}, answer{0, 0, api.ErrBits}},
		{"101", 0, []uint64{3, 1}, answer{0, 0, api.ErrArg}},
		{"101", -1, []uint64{3, 1}, answer{0, 0, api.ErrArg}},
		{"101", 65, []uint64{3, 1}, answer{0, 0, api.ErrArg}},
		{"00110", 1, []uint64{4, 0, 3}, answer{0, 5, api.OK}},
		{"00111", 1, []uint64{4, 0, 3}, answer{2, 5, api.OK}},
		{"01101", 1, []uint64{4, 0, 3}, answer{2, 5, api.OK}},
		{"01110", 1, []uint64{4, 0, 3}, answer{2, 5, api.OK}},
		{"01111", 1, []uint64{4, 0, 3}, answer{2, 5, api.OK}},
		{"10000", 1, []uint64{4, 0, 3}, answer{0, 5, api.OK}},
		{"10100", 1, []uint64{4, 0, 3}, answer{0, 5, api.OK}},
		{"10101", 1, []uint64{4, 0, 3}, answer{0, 5, api.ErrDraws}},
		{"11111 00111", 1, []uint64{4, 0, 3}, answer{0, 5, api.ErrDraws}},
		{"11111 00111", 2, []uint64{4, 0, 3}, answer{2, 10, api.OK}},
		{"10101 11111 1", 2, []uint64{4, 0, 3}, answer{0, 10, api.ErrDraws}},
		{"10101 11111 1", 3, []uint64{4, 0, 3}, answer{0, 10, api.ErrBits}},
		{"10101 1111", 2, []uint64{4, 0, 3}, answer{0, 5, api.ErrBits}},
		{"0101", 1, []uint64{0, 2, 0, 1}, answer{1, 4, api.OK}},
		{"0110", 1, []uint64{0, 2, 0, 1}, answer{3, 4, api.OK}},
		{"1001", 1, []uint64{0, 2, 0, 1}, answer{3, 4, api.OK}},
		{"1010", 1, []uint64{0, 2, 0, 1}, answer{1, 4, api.OK}},
		{"1100", 1, []uint64{0, 2, 0, 1}, answer{0, 4, api.ErrDraws}},
		{"", 1, []uint64{1}, answer{0, 0, api.OK}},
		{"1", 64, []uint64{1}, answer{0, 0, api.OK}},
		{"0", 1, []uint64{0, 1}, answer{1, 1, api.OK}},
		{"1", 1, []uint64{0, 1}, answer{1, 1, api.OK}},
		{"0", 1, []uint64{1, 0}, answer{0, 1, api.OK}},
		{"1", 1, []uint64{1, 0}, answer{0, 1, api.OK}},
		{"01", 1, []uint64{1, 1}, answer{0, 2, api.OK}},
		{"10", 1, []uint64{1, 1}, answer{1, 2, api.OK}},
		{"100", 1, []uint64{5}, answer{0, 3, api.OK}},
		{"101", 1, []uint64{5}, answer{0, 3, api.ErrDraws}},
	} {
		is(t, tapeOf(c.text), c.attempts, c.l, c.want)
	}
}

func TestDrawByHand(t *testing.T) { // P15.1: also by tables that Build never lays
	one := strings.Repeat("1", 61)
	for _, c := range []struct {
		table api.Table
		text  string
		want  answer
	}{
		{api.Table{Total: 4, Cells: cells(4, 0, 2, 0)}, "101", answer{1, 3, api.OK}},
		{api.Table{Total: 4, Cells: cells(4, 0, 2, 0)}, "110", answer{0, 3, api.OK}},
		{api.Table{Total: 2, Cells: cells(1, 1, 1, 2, 1, 0)}, "000", answer{0, 3, api.OK}},
		{api.Table{Total: 2, Cells: cells(1, 1, 1, 2, 1, 0)}, "001", answer{1, 3, api.OK}},
		{api.Table{Total: 2, Cells: cells(1, 1, 1, 2, 1, 0)}, "010", answer{1, 3, api.OK}},
		{api.Table{Total: 2, Cells: cells(1, 1, 1, 2, 1, 0)}, "011", answer{2, 3, api.OK}},
		{api.Table{Total: 2, Cells: cells(1, 1, 1, 2, 1, 0)}, "101", answer{0, 3, api.OK}},
		{api.Table{Total: 2, Cells: cells(1, 1, 1, 2, 1, 0)}, "110", answer{0, 3, api.ErrDraws}},
		{api.Table{Total: 1, Cells: cells(0, 1, 0, 0)}, "0", answer{1, 1, api.OK}},
		{api.Table{Total: 1, Cells: cells(0, 1, 0, 0)}, "1", answer{0, 1, api.OK}},
		{api.Table{Total: 1, Cells: cells(0, 0)}, "", answer{0, 0, api.OK}},
		{api.Table{Total: 7}, "111", answer{0, 0, api.ErrArg}},
		{api.Table{Total: 4, Cells: cells(4, 0, 2, 2)}, "101", answer{0, 0, api.ErrArg}},
		{api.Table{Total: 4, Cells: cells(5, 0, 2, 0)}, "101", answer{0, 0, api.ErrArg}},
		// The sum 2^62 - 1, and the size 2^63 - 2.
		{api.Table{Total: 1<<62 - 1, Cells: cells(1<<62-1, 0, 2, 0)}, "0" + one + "1", answer{1, 63, api.OK}},
		{api.Table{Total: 1<<62 - 1, Cells: cells(1<<62-1, 0, 2, 0)}, "1" + one + "1", answer{0, 63, api.ErrDraws}},
		{api.Table{Total: 1<<62 - 1, Cells: cells(1<<62-1, 0, 2, 0)}, "1" + one + "0", answer{0, 63, api.ErrDraws}},
		{api.Table{Total: 1<<62 - 1, Cells: cells(1<<62-1, 0, 2, 0)}, "1" + one[1:] + "01", answer{0, 63, api.OK}},
		{api.Table{Total: top - 1, Cells: cells(top-1, 0)}, "1" + one + "0", answer{0, 63, api.OK}},
		{api.Table{Total: top - 1, Cells: cells(top-1, 0)}, "1" + one + "1", answer{0, 63, api.ErrDraws}},
		{api.Table{Total: top - 1, Cells: cells(top-1, 0)}, "1" + one, answer{0, 0, api.ErrBits}},
	} {
		isDraw(t, c.table, tapeOf(c.text), 1, c.want)
	}
}

func TestWrongTables(t *testing.T) { // P15.1: ErrArg, and the source as it came, whatever would have been drawn
	for _, table := range wrongTables() {
		for _, s := range slices.Concat(rightSources(), wrongSources()) {
			for _, attempts := range append(wrongAttempts()[:8], 1, 2, 64) {
				isDraw(t, table, s, attempts, answer{0, 0, api.ErrArg})
			}
		}
		for u := range uint64(64) {
			isDraw(t, table, tapeOf(digitsOf(u, 6)), 1, answer{0, 0, api.ErrArg})
		}
	}
	isDraw(t, api.Table{Total: 1 << 43, Cells: make([]api.Cell, most)}, tapeOf(strings.Repeat("0", 64)), 1, answer{0, 0, api.ErrArg})
}

func TestWrongSources(t *testing.T) { // P15.1: ErrArg, and the source as it came, also where no bit is read
	for _, s := range wrongSources() {
		for _, attempts := range append(wrongAttempts(), 1, 64) {
			for _, table := range otherTables() {
				isDraw(t, table, s, attempts, answer{0, 0, api.ErrArg})
			}
			for _, l := range rightStakes() {
				is(t, s, attempts, l, answer{0, 0, api.ErrArg})
			}
		}
	}
}

func TestWrongAttempts(t *testing.T) { // P15.1: ErrArg, even where there are too few bits, or none is read
	for _, s := range rightSources() {
		for _, attempts := range wrongAttempts() {
			for _, table := range otherTables() {
				isDraw(t, table, s, attempts, answer{0, 0, api.ErrArg})
			}
			for _, l := range rightStakes() {
				is(t, s, attempts, l, answer{0, 0, api.ErrArg})
			}
		}
	}
}

func TestNoTable(t *testing.T) { // P15.1: Build's errors, and the source as it came, ahead of what is wrong with it or the attempts
	for _, c := range []struct {
		rows [][]uint64
		e    api.Errno
	}{{noStakes(), api.ErrZero}, {tooMuch(), api.ErrBig}, {tooWide(), api.ErrBig}} {
		for _, l := range c.rows {
			if e := refused(l); e != c.e {
				t.Errorf("the model says %d of %v..", int(e), short(l))
			}
			for _, s := range slices.Concat(rightSources(), wrongSources()) {
				for _, attempts := range append(wrongAttempts(), 1, 2, 64) {
					isList(t, s, attempts, l, answer{0, 0, c.e})
				}
			}
		}
	}
}

func TestNoBits(t *testing.T) { // P15.1: a table of the size 1 takes none, though it may have none, or lie at its end
	for _, table := range []api.Table{{Total: 1, Cells: cells(1, 0)}, {Total: 1, Cells: cells(0, 0)}} {
		for _, s := range rightSources() {
			for _, attempts := range []int{1, 2, 63, 64} {
				isDraw(t, table, s, attempts, answer{0, 0, api.OK})
				isList(t, s, attempts, []uint64{1}, answer{0, 0, api.OK})
			}
		}
	}
}

func TestManyDraws(t *testing.T) { // P15.1: of both kinds of source
	seen := map[api.Errno]int{}
	for _, s := range rightSources() {
		for _, attempts := range []int{1, 2, 3, 64} {
			for _, l := range rightStakes() {
				seen[check(t, s, attempts, l)]++
			}
			for _, table := range otherTables() {
				isDraw(t, table, s, attempts, drawn(t, table, s, attempts))
			}
		}
	}
	if seen[api.OK] == 0 || seen[api.ErrBits] == 0 || seen[api.ErrDraws] == 0 {
		t.Error("not all that may come came:", seen)
	}
}

func TestEachSmallTape(t *testing.T) { // P15.1
	for bits := range 9 {
		for v := range uint64(1) << bits {
			s := tapeOf(digitsOf(v, bits))
			for _, attempts := range []int{1, 2, 64} {
				for _, l := range fewStakes() {
					check(t, s, attempts, l)
				}
				for _, table := range otherTables()[:11] {
					isDraw(t, table, s, attempts, drawn(t, table, s, attempts))
				}
			}
		}
	}
}

func TestEndsOfColumns(t *testing.T) { // P15.1: the first and the last number of each column, and those about its Cut, by bits that are just enough, and by one bit less
	for _, table := range rightTables() {
		size := sizeOf(table)
		k := bitsOf(size)
		for i, c := range short(table.Cells) {
			start := uint64(i) * table.Total
			for _, offset := range []uint64{0, c.Cut - 1, c.Cut, c.Cut + 1, table.Total - 1} {
				if offset >= table.Total {
					continue
				}
				owner := i
				if offset >= c.Cut {
					owner = c.Alias
				}
				s := tapeOf(digitsOf(start+offset, k))
				isDraw(t, table, s, 1, answer{owner, k, api.OK})
				isDraw(t, table, s, 64, answer{owner, k, api.OK})
				if k > 0 {
					s.Bits--
					isDraw(t, table, s, 1, answer{0, 0, api.ErrBits})
				}
			}
		}
		if size < 1<<k {
			isDraw(t, table, tapeOf(digitsOf(size, k)), 1, answer{0, k, api.ErrDraws})
		}
	}
}

func TestBehindLosses(t *testing.T) { // P15.1: the attempts of each number, the 64th too, and not one more
	for _, table := range rightTables() {
		size := sizeOf(table)
		k := bitsOf(size)
		if size == 1<<k {
			continue
		}
		owner, won := ownerOf(table, size-1), digitsOf(size-1, k)
		for _, loss := range []string{digitsOf(size, k), strings.Repeat("1", k)} {
			for _, lost := range []int{1, 2, 63, 64} {
				losses := "101" + strings.Repeat(loss, lost)
				s, less := behind(tapeOf(losses+won+"1"), 3), behind(tapeOf(losses+won[1:]), 3)
				isDraw(t, table, s, lost, answer{0, lost * k, api.ErrDraws})
				isDraw(t, table, less, lost, answer{0, lost * k, api.ErrDraws})
				if lost == api.MaxAttempts {
					isDraw(t, table, s, lost+1, answer{0, 0, api.ErrArg})
					continue
				}
				isDraw(t, table, s, lost+1, answer{owner, (lost + 1) * k, api.OK})
				isDraw(t, table, s, 64, answer{owner, (lost + 1) * k, api.OK})
				isDraw(t, table, less, lost+1, answer{0, lost * k, api.ErrBits})
			}
		}
	}
}

func TestOneStake(t *testing.T) { // P15.1: alone, and among places without one, which never lead
	for _, stake := range []uint64{1, 2, 3, 4, 5, 255, 256, 257, 7 << 40, (top - 1) / 17} {
		for n := range 18 {
			for i := range n {
				l := make([]uint64, n)
				l[i] = stake
				k := bitsOf(stake * uint64(n))
				is(t, tapeOf(strings.Repeat("0", k)), 1, l, answer{i, k, api.OK})
				is(t, tapeOf(digitsOf(stake*uint64(n)-1, k)), 1, l, answer{i, k, api.OK})
				s := streamAt(seed("one"), uint64(i), 0)
				if want := listed(t, s, 64, l); want.place != i || want.e != api.OK {
					t.Error("the model lets another place lead:", i, want)
				}
				check(t, s, 64, l)
			}
		}
	}
}

func TestAboutPowersOfTwo(t *testing.T) { // P15.1: one bit more from one more on; of so many times the sum, not of the sum
	for i := range 63 {
		for _, c := range []struct {
			size uint64
			k    int
		}{{1 << i, i}, {1<<i + 1, i + 1}} {
			for n := range uint64(6) {
				if n == 0 || c.size%n != 0 {
					continue
				}
				l := make([]uint64, n)
				l[n-1] = c.size / n
				last := int(n) - 1
				is(t, tapeOf(strings.Repeat("0", c.k)), 1, l, answer{last, c.k, api.OK})
				if c.k > 0 {
					is(t, tapeOf(strings.Repeat("0", c.k-1)), 1, l, answer{0, 0, api.ErrBits})
				}
			}
		}
	}
}

func TestMany(t *testing.T) { // P15.1: neither chapter has a bound for how many there are
	for _, n := range []int{most, most + 1} {
		l := slices.Repeat([]uint64{1 << 20, 0, 1 << 22, 1 << 21}, n/4+1)[:n]
		table := laid(l)
		size := sizeOf(table)
		if size == 0 {
			t.Fatal("the model's table may not be")
		}
		k := bitsOf(size)
		for _, s := range []api.Source{streamAt(seed("many"), 5, 0), streamAt(seed("many"), 5, 1000), tapeOf(digitsOf(0, k)), tapeOf(digitsOf(size/3, k)), tapeOf(digitsOf(size-1, k)), tapeOf(digitsOf(size, k))} {
			want := drawn(t, table, s, 1)
			isDraw(t, table, s, 1, want)
			isList(t, s, 1, l, want)
		}
		table.Cells[n-1].Alias = n
		isDraw(t, table, tapeOf(digitsOf(0, k)), 1, answer{0, 0, api.ErrArg})
		l[7] += 1 << 43
		isList(t, tapeOf("101"), 1, l, answer{0, 0, api.ErrBig})
		clear(l)
		isList(t, tapeOf("101"), 1, l, answer{0, 0, api.ErrZero})
	}
}

// power is b to the m.
func power(b uint64, m int) *big.Int {
	return new(big.Int).Exp(number(b), big.NewInt(int64(m)), nil)
}

// all is of all tapes of so many bits how many let each of n places lead, and how many nobody; beyond them the tapes have bits that must not be read.
func all(t *testing.T, draw func(s api.Source) (int, api.Source, api.Errno), n, bits int) ([]int64, int64) {
	t.Helper()
	led, nobody := make([]int64, n), int64(0)
	for v := range uint64(1) << bits {
		var b [8]byte
		head := v << (63 - bits) << 1
		binary.BigEndian.PutUint64(b[:], head)
		place, next, e := draw(tapeAt(b[:], uint64(bits), 0))
		// With other bits in the room behind, and more of them: no more are read.
		binary.BigEndian.PutUint64(b[:], head|math.MaxUint64>>bits)
		longer, last, e2 := draw(tapeAt(b[:], 64, 0))
		if longer != place || last.At != next.At || e2 != e {
			t.Errorf("the tape %b: %d, %d, and with more bits behind %d, %d", v, place, int(e), longer, int(e2))
		}
		switch {
		case e == api.OK && place >= 0 && place < n && next.At <= uint64(bits):
			led[place]++
		case e == api.ErrDraws && place == 0 && next.At == uint64(bits):
			nobody++
		default:
			t.Errorf("the tape %b: %d, %v, %d", v, place, next, int(e))
		}
	}
	return led, nobody
}

// isShare holds counts over all tapes against so many of the whole, by the promise's numbers: part (2^(K m) - nobody) / whole.
func isShare(t *testing.T, name string, led []int64, nobody int64, k, m int, size uint64, parts []uint64, whole uint64) {
	t.Helper()
	wantNobody := power(1<<k-size, m)
	if wantNobody.Cmp(big.NewInt(nobody)) != 0 {
		t.Errorf("%s, by %d attempts: nobody leads by %d, want %d", name, m, nobody, wantNobody)
	}
	for i, part := range parts {
		want := new(big.Int).Sub(power(1<<k, m), wantNobody)
		want.Mul(want, number(part))
		want, left := want.DivMod(want, number(whole), new(big.Int))
		if left.Sign() != 0 {
			t.Fatal("the chapter's number isn't whole:", name, m)
		}
		if want.Cmp(big.NewInt(led[i])) != 0 {
			t.Errorf("%s, by %d attempts: the place %d leads by %d, want %d", name, m, i, led[i], want)
		}
	}
}

// checkCounts holds the counts over all tapes of K times m bits against the promise's numbers, for both calls.
func checkCounts(t *testing.T, l []uint64, m int) {
	t.Helper()
	table, sum := laid(l), sumOf(l).Uint64()
	size := sum * uint64(len(l))
	k := bitsOf(size)
	name := fmt.Sprintf("of %v..", short(l))
	for _, draw := range []func(s api.Source) (int, api.Source, api.Errno){
		func(s api.Source) (int, api.Source, api.Errno) { return Draw(table, s, m) },
		func(s api.Source) (int, api.Source, api.Errno) { return List(s, m, l...) },
	} {
		led, nobody := all(t, draw, len(l), k*m)
		isShare(t, name, led, nobody, k, m, size, l, sum)
	}
}

func TestByStake(t *testing.T) { // P15.2
	count := func(l []uint64) {
		if refused(l) != api.OK {
			return
		}
		k := bitsOf(sumOf(l).Uint64() * uint64(len(l)))
		for m := 1; m <= 4 && k*m <= 10; m++ {
			checkCounts(t, l, m)
		}
	}
	everyRow(4, 3, count)
	everyRow(3, 6, count)
	everyRow(6, 2, count)
	for n := range 15 {
		count(row(n+1, 9))
	}
	count([]uint64{0, 255, 0, 1})
	count([]uint64{200, 0, 100})
}

func TestByStakeOfManyAttempts(t *testing.T) { // P15.2
	for _, c := range []struct {
		l []uint64
		m int
	}{
		{[]uint64{1}, 64}, {[]uint64{2}, 12}, {[]uint64{3}, 6}, {[]uint64{0, 1}, 12}, {[]uint64{1, 1}, 6}, {[]uint64{2, 1}, 4}, {[]uint64{1, 0, 0}, 6}, {[]uint64{0, 3, 2}, 3}, {[]uint64{3, 1}, 4}, {[]uint64{4, 1, 0, 4, 0}, 2},
	} {
		checkCounts(t, c.l, c.m)
	}
}

func TestByStakeByHand(t *testing.T) { // P15.2
	for _, c := range []struct {
		l       []uint64
		bits, m int
		led     []int64
		nobody  int64
	}{
		{[]uint64{3, 1}, 3, 1, []int64{6, 2}, 0},
		{[]uint64{3, 1}, 6, 2, []int64{48, 16}, 0},
		{[]uint64{4, 0, 3}, 10, 2, []int64{516, 0, 387}, 121},
		{[]uint64{4, 0, 3}, 5, 1, []int64{12, 0, 9}, 11},
		{[]uint64{0, 2, 0, 1}, 8, 2, []int64{0, 160, 0, 80}, 16},
		{[]uint64{1, 2}, 9, 3, []int64{168, 336}, 8},
		{[]uint64{1}, 0, 1, []int64{1}, 0},
		{[]uint64{1}, 0, 64, []int64{1}, 0},
		{[]uint64{0, 1}, 2, 2, []int64{0, 4}, 0},
		{[]uint64{5}, 6, 2, []int64{55}, 9},
	} {
		led, nobody := all(t, func(s api.Source) (int, api.Source, api.Errno) { return List(s, c.m, c.l...) }, len(c.l), c.bits)
		if !slices.Equal(led, c.led) || nobody != c.nobody {
			t.Errorf("of %v, by %d attempts: %v, and nobody by %d, want %v, %d", c.l, c.m, led, nobody, c.led, c.nobody)
		}
	}
}

func TestByTable(t *testing.T) { // P15.1, P15.2: by a table that Build never lays each place leads by as many as it owns
	for _, table := range otherTables() {
		size := sizeOf(table)
		if size > 64 {
			continue
		}
		owned := make([]uint64, len(table.Cells))
		for u := range size {
			owned[ownerOf(table, u)]++
		}
		k := bitsOf(size)
		for m := 1; m <= 4 && k*m <= 12; m++ {
			led, nobody := all(t, func(s api.Source) (int, api.Source, api.Errno) { return Draw(table, s, m) }, len(table.Cells), k*m)
			isShare(t, fmt.Sprintf("by %v", table), led, nobody, k, m, size, owned, size)
		}
	}
}

func TestStreamAsATape(t *testing.T) { // P15.1: a stream draws as a tape of its bits, draw behind draw
	for _, l := range rightStakes() {
		ofStream := streamAt(seed("stream"), 7, 0)
		ofTape := tapeOf(ahead(ofStream, 20*3*63))
		table := laid(l)
		for range 20 {
			place, next, e := Draw(table, ofStream, 3)
			other, following, e2 := List(ofTape, 3, l...)
			if place != other || e != e2 || next.At != following.At {
				t.Errorf("of %v..: of the stream %d, %d, of the tape %d, %d", short(l), place, int(e), other, int(e2))
			}
			ofStream, ofTape = next, following
		}
	}
}

func TestDrawBehindDraw(t *testing.T) { // P15.1: each draw goes on where the one ahead ended, whatever came of it
	rows := [][]uint64{{4, 0, 3}, {1, 1}, {0, 0}, {2, 5}, {0, 1}, {top, 1}, {1, 2}, {1 << 62, 0}, {4, 0, 0, 5}, {5}}
	s := tapeOf(strings.Repeat("11111 110 1010 011 1 0 ", 12))
	for i := range 300 {
		l := rows[i%len(rows)]
		want := listed(t, s, 2, l)
		isList(t, s, 2, l, want)
		_, next, _ := List(s, 2, l...)
		s = next
	}
	if s.Bits-s.At > 5 {
		t.Error("not all was read:", s)
	}
}

func TestStreamsEnd(t *testing.T) { // P15.1
	seen := map[api.Errno]int{}
	for left := range uint64(130) {
		for _, l := range [][]uint64{{1}, {1, 1}, {3, 0, 2}, {0, 129}, {1<<62 + 1}, {1, 1<<62 - 2}} {
			for _, attempts := range []int{1, 2, 64} {
				seen[check(t, streamAt(seed("end"), 9, streamEnd-left), attempts, l)]++
			}
		}
	}
	if seen[api.OK] == 0 || seen[api.ErrDraws] == 0 || seen[api.ErrBits] == 0 {
		t.Error("not all that may come came:", seen)
	}
}

func TestNothingIsKept(t *testing.T) { // P15.1: what was handed in and is written into later on counts as it is then
	table, l, b := laid([]uint64{3, 1}), []uint64{3, 1}, []byte{0b10100000}
	both := func(want int) {
		t.Helper()
		place, _, e := Draw(table, tapeAt(b, 8, 0), 1)
		other, _, e2 := List(tapeAt(b, 8, 0), 1, l...)
		if place != want || e != api.OK || other != want || e2 != api.OK {
			t.Errorf("by the table %d, %d, by the list %d, %d, want %d", place, int(e), other, int(e2), want)
		}
	}
	both(1)
	b[0] = 0b11000000
	both(0)
	copy(l, []uint64{1, 3})
	copy(table.Cells, laid(l).Cells)
	both(1)
	b[0] = 0b00100000
	both(0)
	table.Cells[1].Cut = 5
	if _, next, e := Draw(table, tapeAt(b, 8, 0), 1); e != api.ErrArg || next.At != 0 {
		t.Error("a table that may not be any more:", next, int(e))
	}
}
