package alias

import (
	"math"
	"math/big"
	"slices"
	"testing"

	"drawlot/api"
)

const (
	top  = 1 << 63
	most = 1 << 20
)

// mixed are numbers without a visible order.
type mixed uint64

func (m *mixed) next() uint64 {
	*m = *m*6364136223846793005 + 1442695040888963407
	return uint64(*m) >> 16
}

// row is n stakes below the bound, about a third of them 0.
func row(n int, bound uint64) []uint64 {
	m, l := mixed(uint64(n)*31+bound), make([]uint64, n)
	for i := range l {
		if m.next()%3 != 0 {
			l[i] = m.next() % bound
		}
	}
	return l
}

// everyRow calls do with each row of up to that many stakes below the bound.
func everyRow(length int, bound uint64, do func(l []uint64)) {
	rows := [][]uint64{nil}
	for range length + 1 {
		var longer [][]uint64
		for _, l := range rows {
			do(slices.Clone(l))
			for s := range bound {
				longer = append(longer, slices.Concat(l, []uint64{s}))
			}
		}
		rows = longer
	}
}

// short is the beginning of l.
func short[T any](l []T) []T { return l[:min(len(l), 12)] }

// number is n without an end.
func number(n uint64) *big.Int { return new(big.Int).SetUint64(n) }

// cells are the cells of these numbers: a Cut, its Alias, and so on.
func cells(numbers ...uint64) []api.Cell {
	var out []api.Cell
	for pair := range slices.Chunk(numbers, 2) {
		out = append(out, api.Cell{Cut: pair[0], Alias: int(pair[1])})
	}
	return out
}

// sumOf is the sum of l.
func sumOf(l []uint64) *big.Int {
	sum := new(big.Int)
	for _, s := range l {
		sum.Add(sum, number(s))
	}
	return sum
}

// times is how often the sum stands in a table of so many cells.
func times(n int, sum *big.Int) *big.Int {
	return new(big.Int).Mul(big.NewInt(int64(n)), sum)
}

// model is the chapter's words of Build, by numbers without an end and by lists that are cut anew.
func model(l []uint64) (api.Table, api.Errno) {
	sum := sumOf(l)
	switch {
	case len(l) == 0:
		return api.Table{}, api.ErrZero
	case sum.BitLen() > 63:
		return api.Table{}, api.ErrBig
	case sum.Sign() == 0:
		return api.Table{}, api.ErrZero
	case times(len(l), sum).BitLen() > 63:
		return api.Table{}, api.ErrBig
	}
	return laid(l, sum), api.OK
}

// laid is the table of l, whose sum it is.
func laid(l []uint64, sum *big.Int) api.Table {
	cells, has := make([]api.Cell, len(l)), make([]*big.Int, len(l))
	var small, large []int
	sorted := func(i int) {
		if has[i].Cmp(sum) < 0 {
			small = append(small, i)
		} else {
			large = append(large, i)
		}
	}
	for i, s := range l {
		has[i] = times(len(l), number(s))
		sorted(i)
	}
	for len(small) > 0 && len(large) > 0 {
		a, b := small[len(small)-1], large[len(large)-1]
		small, large = small[:len(small)-1], large[:len(large)-1]
		cells[a] = api.Cell{Cut: has[a].Uint64(), Alias: b}
		has[b].Sub(has[b], sum)
		has[b].Add(has[b], has[a])
		sorted(b)
	}
	for _, i := range slices.Concat(small, large) {
		cells[i] = api.Cell{Cut: sum.Uint64(), Alias: i}
	}
	return api.Table{Total: sum.Uint64(), Cells: cells}
}

// mayBe is the chapter's words of a table that may be.
func mayBe(t api.Table) bool {
	if len(t.Cells) == 0 || t.Total == 0 || times(len(t.Cells), number(t.Total)).BitLen() > 63 {
		return false
	}
	for _, c := range t.Cells {
		if c.Cut > t.Total || c.Alias < 0 || c.Alias > len(t.Cells)-1 {
			return false
		}
	}
	return true
}

// sizeOf is the chapter's words of Size.
func sizeOf(t api.Table) uint64 {
	if !mayBe(t) {
		return 0
	}
	return times(len(t.Cells), number(t.Total)).Uint64()
}

// lookedUp is the chapter's words of Lookup.
func lookedUp(t api.Table, column int, offset uint64) (int, api.Errno) {
	switch {
	case !mayBe(t):
		return 0, api.ErrArg
	case column < 0 || column > len(t.Cells)-1 || offset >= t.Total:
		return 0, api.ErrRange
	case offset < t.Cells[column].Cut:
		return column, api.OK
	}
	return t.Cells[column].Alias, api.OK
}

// ownerOf is the chapter's words of Owner.
func ownerOf(t api.Table, u uint64) (int, api.Errno) {
	switch {
	case !mayBe(t):
		return 0, api.ErrArg
	case u >= sizeOf(t):
		return 0, api.ErrRange
	}
	column, offset := new(big.Int).DivMod(number(u), number(t.Total), new(big.Int))
	return lookedUp(t, int(column.Int64()), offset.Uint64())
}

// same holds two tables against each other in all fields; cells that hold nothing may be nil.
func same(a, b api.Table) bool {
	return a.Total == b.Total && slices.Equal(a.Cells, b.Cells)
}

// guarded is memory with other values ahead of and in the spare room behind what is handed in.
type guarded[T comparable] struct{ all, was []T }

func guard[T comparable](l []T, other T) guarded[T] {
	fence := slices.Repeat([]T{other}, 40)
	all := slices.Concat(fence, l, fence)
	return guarded[T]{all, slices.Clone(all)}
}

func (g guarded[T]) inner() []T { return g.all[40 : len(g.all)-40] }

func (g guarded[T]) check(t *testing.T, name string) {
	t.Helper()
	if !slices.Equal(g.all, g.was) {
		t.Errorf("%s changed what was handed in", name)
	}
}

// guardTable is the table with its cells in guarded memory; the cells around them might be of it.
func guardTable(table api.Table) (api.Table, guarded[api.Cell]) {
	g := guard(table.Cells, api.Cell{Cut: table.Total / 2})
	return api.Table{Total: table.Total, Cells: g.inner()}, g
}

// checkBuild holds Build against the chapter's words, and answers its error.
func checkBuild(t *testing.T, l []uint64) api.Errno {
	t.Helper()
	want, wantError := model(l)
	isBuild(t, l, want, wantError)
	return wantError
}

// isBuild holds Build against what it must answer, twice, with guarded memory, and with the first answer written into.
func isBuild(t *testing.T, l []uint64, want api.Table, wantError api.Errno) {
	t.Helper()
	g := guard(l, 91)
	for range 2 {
		got, e := Build(g.inner()...)
		if !same(got, want) || e != wantError {
			t.Errorf("Build(%v..) of %d = %d, %v.., %d, want %d, %v.., %d", short(l), len(l), got.Total, short(got.Cells), int(e), want.Total, short(want.Cells), int(wantError))
		}
		for i := range got.Cells[:cap(got.Cells)] {
			got.Cells[:cap(got.Cells)][i] = api.Cell{Cut: 77, Alias: -77}
		}
		g.check(t, "Build, or who writes into its answer,")
	}
}

// checkRight holds Right and Size against the chapter's words.
func checkRight(t *testing.T, table api.Table) {
	t.Helper()
	inner, g := guardTable(table)
	want, size := mayBe(table), sizeOf(table)
	for range 2 {
		if got := Right(inner); got != want {
			t.Errorf("Right(%d, %v..) of %d = %v", table.Total, short(table.Cells), len(table.Cells), got)
		}
		if got := Size(inner); got != size {
			t.Errorf("Size(%d, %v..) of %d = %d, want %d", table.Total, short(table.Cells), len(table.Cells), got, size)
		}
	}
	g.check(t, "Right or Size")
}

func checkLookup(t *testing.T, table api.Table, column int, offset uint64) {
	t.Helper()
	inner, g := guardTable(table)
	want, wantError := lookedUp(table, column, offset)
	for range 2 {
		if got, e := Lookup(inner, column, offset); got != want || e != wantError {
			t.Errorf("Lookup(%d, %v.. of %d, %d, %d) = %d, %d, want %d, %d", table.Total, short(table.Cells), len(table.Cells), column, offset, got, int(e), want, int(wantError))
		}
	}
	g.check(t, "Lookup")
}

func checkOwner(t *testing.T, table api.Table, u uint64) {
	t.Helper()
	inner, g := guardTable(table)
	want, wantError := ownerOf(table, u)
	for range 2 {
		if got, e := Owner(inner, u); got != want || e != wantError {
			t.Errorf("Owner(%d, %v.. of %d, %d) = %d, %d, want %d, %d", table.Total, short(table.Cells), len(table.Cells), u, got, int(e), want, int(wantError))
		}
	}
	g.check(t, "Owner")
}

// isOwns holds Owns against what it must answer, twice, with guarded memory.
func isOwns(t *testing.T, table api.Table, i int, want uint64, wantError api.Errno) {
	t.Helper()
	inner, g := guardTable(table)
	for range 2 {
		if got, e := Owns(inner, i); got != want || e != wantError {
			t.Errorf("Owns(%d, %v.. of %d, %d) = %d, %d, want %d, %d", table.Total, short(table.Cells), len(table.Cells), i, got, int(e), want, int(wantError))
		}
	}
	g.check(t, "Owns")
}

// isSame holds Same against what it must answer, both ways round.
func isSame(t *testing.T, a, b api.Table, want bool) {
	t.Helper()
	x, g := guardTable(a)
	y, h := guardTable(b)
	if Same(x, y) != want || Same(y, x) != want {
		t.Errorf("Same(%v, %v) isn't %v", a, b, want)
	}
	g.check(t, "Same")
	h.check(t, "Same")
}

// clone is a table with cells of its own.
func clone(t api.Table) api.Table {
	return api.Table{Total: t.Total, Cells: slices.Clone(t.Cells)}
}

// built is the table of l, which must have one.
func built(t *testing.T, l []uint64) api.Table {
	t.Helper()
	table, e := Build(l...)
	if e != api.OK {
		t.Fatalf("Build(%v..) of %d: %d", short(l), len(l), int(e))
	}
	return table
}

// counted is how many numbers below the table's size each place owns, by going through them one by one.
func counted(t *testing.T, table api.Table) []uint64 {
	t.Helper()
	owned := make([]uint64, len(table.Cells))
	for u := range sizeOf(table) {
		place, e := Owner(table, u)
		want, wantError := ownerOf(table, u)
		other, e2 := Lookup(table, int(u/table.Total), u%table.Total)
		if e != api.OK || wantError != api.OK || place != want || e2 != api.OK || other != place {
			t.Fatalf("of %v, the number %d: the owner %d, %d, looked up %d, %d, want %d", table, u, place, int(e), other, int(e2), want)
		}
		owned[place]++
	}
	return owned
}

// checkEdges asks for columns, offsets and numbers just inside and just outside of a table, whether it may be or not.
func checkEdges(t *testing.T, table api.Table) {
	t.Helper()
	n, size := len(table.Cells), sizeOf(table)
	columns := []int{-1, -2, math.MinInt, math.MinInt32, n, n + 1, math.MaxInt, 1 << 32, 1<<32 + 1, -1 << 32, math.MinInt + 1, 0, n - 1, n / 2}
	for _, column := range columns {
		offsets := []uint64{0, 1, table.Total - 1, table.Total, table.Total + 1, top - 1, top, math.MaxUint64, 1 << 32}
		if column >= 0 && column < n {
			cut := table.Cells[column].Cut
			offsets = append(offsets, cut, cut-1, cut+1)
		}
		for _, offset := range offsets {
			checkLookup(t, table, column, offset)
		}
		if !mayBe(table) {
			isOwns(t, table, column, 0, api.ErrArg)
		} else if column < 0 || column >= n {
			isOwns(t, table, column, 0, api.ErrRange)
		}
	}
	for _, u := range []uint64{0, 1, size - 1, size, size + 1, table.Total, table.Total - 1, table.Total + 1, top - 1, top, top + 1, math.MaxUint64} {
		checkOwner(t, table, u)
	}
	for i := range min(n, 20) {
		start, cut := table.Total*uint64(i), table.Cells[i].Cut
		for _, u := range []uint64{start - 1, start, start + 1, start + cut - 1, start + cut, start + cut + 1} {
			checkOwner(t, table, u)
		}
	}
}

// rightStakes are stakes of all kinds that the chapter names, which have a table.
func rightStakes() [][]uint64 {
	return [][]uint64{
		{3, 1}, {1, 3}, {1}, {7}, {2, 2, 2}, {0, 1}, {1, 0}, {0, 0, 1, 0, 0}, {0, 0, 7 << 40}, {9, 0, 0, 0, 0, 0, 0, 0, 0}, {0, 0, 0, 0, 0, 0, 0, 0, 5},
		{3, 0, 2}, {3, 0, 6, 3}, {1, 5, 0}, {0, 0, 3, 0, 0, 2, 0, 0}, {1, 2, 3, 4, 5, 6, 7, 8, 9}, {9, 8, 7, 6, 5, 4, 3, 2, 1}, {1, 9, 1, 9, 1, 9}, {8, 0, 0, 8, 0, 0, 8},
		{top - 1}, {1 << 62}, {1 << 61, 1<<61 - 1}, {1<<62 - 1, 0}, {0, 1<<62 - 1}, {1, 1<<62 - 2}, {0, 1 << 60, 0, 1<<60 - 1},
		{0, 0, 0, (top - 1) / 7, 0, 0, 0}, {1, 2, 3, 4, 5, 6, (top-1)/7 - 21}, {1, (top-1)/3 - 1, 0},
		slices.Repeat([]uint64{1}, 17), slices.Repeat([]uint64{0, 5, 5}, 9), row(40, 1000), row(100, 1<<49), row(255, 1<<46), row(256, 3),
	}
}

// tooMuch are rows whose sum is 2^63 or more; of some the lowest 64 bits alone would do, or are 0.
func tooMuch() [][]uint64 {
	return [][]uint64{
		{top}, {top + 1}, {math.MaxUint64}, {top - 1, 1}, {1, top - 1}, {1, 0, 0, top - 1, 0}, {1 << 62, 1 << 62}, {1 << 62, 1<<62 - 1, 0, 1},
		{top, top}, {top, 0, top, 5}, {math.MaxUint64, 1}, {1, math.MaxUint64}, {0, math.MaxUint64, 1, 0}, {math.MaxUint64, 2, 7}, {math.MaxUint64, math.MaxUint64, 2},
		{top - 1, top - 1, 2, 7}, {1 << 62, 1 << 62, 1 << 62, 1 << 62}, {1 << 62, 1 << 62, 1 << 62, 1 << 62, 3},
	}
}

// tooWide are rows whose sum is below 2^63, but not so many times it; of some the lowest 64 bits alone would do, or are 0.
func tooWide() [][]uint64 {
	return [][]uint64{
		{1 << 62, 0}, {0, 1 << 62}, {1<<62 - 1, 1}, {1 << 61, 1 << 61}, {top - 1, 0}, {1, top - 2},
		{(top-1)/3 + 1, 0, 0}, {1 << 61, 0, 0, 0}, {1 << 62, 0, 0, 0}, {1 << 62, 1, 0, 0}, {1 << 61, 1<<61 - 1, 1 << 61, 1 << 61},
		{(top-1)/7 + 1, 0, 0, 0, 0, 0, 0}, {top - 1, 0, 0, 0, 0, 0, 0, 0}, append([]uint64{1 << 60, 7}, make([]uint64, 14)...),
	}
}

// wrongTables are tables that may not be, for each reason that there is; of some the lowest 64 bits alone would do.
func wrongTables() []api.Table {
	good := laid([]uint64{3, 1, 0, 4}, big.NewInt(8))
	with := func(do func(t *api.Table)) api.Table {
		bad := clone(good)
		do(&bad)
		return bad
	}
	cell := func(i int, c api.Cell) api.Table {
		return with(func(t *api.Table) { t.Cells[i] = c })
	}
	out := []api.Table{
		{}, {Total: 8}, {Total: 8, Cells: []api.Cell{}}, {Cells: []api.Cell{{}}}, {Cells: []api.Cell{{}, {Alias: 1}}}, {Total: top - 1},
		with(func(t *api.Table) { t.Total = 0 }), with(func(t *api.Table) { t.Total, t.Cells = 0, make([]api.Cell, 4) }), with(func(t *api.Table) { t.Total = 7 }),
		with(func(t *api.Table) { t.Total = 1 << 61 }), with(func(t *api.Table) { t.Total = 1 << 62 }), with(func(t *api.Table) { t.Total = 1<<62 + 8 }), with(func(t *api.Table) { t.Total = top }), with(func(t *api.Table) { t.Total = math.MaxUint64 }),
		{Total: top, Cells: []api.Cell{{Cut: top}}}, {Total: top, Cells: []api.Cell{{}}}, {Total: math.MaxUint64, Cells: []api.Cell{{Cut: 1}}},
		{Total: (top-1)/7 + 1, Cells: make([]api.Cell, 7)}, {Total: 1 << 43, Cells: make([]api.Cell, most)},
	}
	for i, c := range good.Cells {
		for _, cut := range []uint64{9, 10, top, math.MaxUint64, 1<<32 + 2} {
			out = append(out, cell(i, api.Cell{Cut: cut, Alias: c.Alias}))
		}
		for _, other := range []int{-1, -2, -4, 4, 5, math.MinInt, math.MaxInt, 1 << 32, 1<<32 + 1, -1 << 32, math.MinInt + 1} {
			out = append(out, cell(i, api.Cell{Cut: c.Cut, Alias: other}), cell(i, api.Cell{Cut: 8, Alias: other}))
		}
	}
	return out
}

// rightTables are tables that may be, also such as Build never lays.
func rightTables(t *testing.T) []api.Table {
	out := []api.Table{
		{Total: 1, Cells: []api.Cell{{}}}, {Total: 1, Cells: []api.Cell{{Cut: 1}}}, {Total: top - 1, Cells: []api.Cell{{Cut: top - 1}}}, {Total: top - 1, Cells: []api.Cell{{}}},
		{Total: 8, Cells: []api.Cell{{Cut: 8, Alias: 3}, {Cut: 0, Alias: 1}, {Cut: 8, Alias: 0}, {Cut: 7, Alias: 3}}},
		{Total: (top - 1) / 7, Cells: make([]api.Cell, 7)}, {Total: (top - 1) / 7, Cells: slices.Repeat([]api.Cell{{Cut: (top - 1) / 7, Alias: 6}}, 7)},
		{Total: 1<<62 - 1, Cells: []api.Cell{{Cut: 1<<62 - 1, Alias: 1}, {Cut: 1, Alias: 0}}},
	}
	for _, l := range rightStakes() {
		out = append(out, laid(l, sumOf(l)))
	}
	return out
}

func TestBuildByHand(t *testing.T) { // P14.1
	for _, c := range []struct {
		l     []uint64
		total uint64
		cells []api.Cell
	}{
		{[]uint64{3, 1}, 4, cells(4, 0, 2, 0)},
		{[]uint64{1, 3}, 4, cells(2, 1, 4, 1)},
		{[]uint64{7}, 7, cells(7, 0)},
		{[]uint64{2, 2}, 4, cells(4, 0, 4, 1)},
		{[]uint64{5, 5, 5}, 15, cells(15, 0, 15, 1, 15, 2)},
		{[]uint64{0, 1}, 1, cells(0, 1, 1, 1)},
		{[]uint64{1, 0}, 1, cells(1, 0, 0, 0)},
		{[]uint64{0, 0, 4, 0}, 4, cells(0, 2, 0, 2, 4, 2, 0, 2)},
		// 9, 0, 6, each up to 5: 1 takes 5 of 2, which becomes small with 1, and takes 4 of 0.
		{[]uint64{3, 0, 2}, 5, cells(5, 0, 0, 2, 1, 0)},
		// 1 takes all 4 of 3, which becomes small with 0, and takes 4 of 2, which stays large with just 4.
		{[]uint64{1, 0, 2, 1}, 4, cells(4, 0, 0, 3, 4, 2, 0, 2)},
		// 5, 4 and 3 take of 1 till it is small with 0; then 1, the last one that came, takes of 0 ahead of 2.
		{[]uint64{3, 3, 0, 0, 0, 0}, 6, cells(6, 0, 0, 0, 0, 0, 0, 1, 0, 1, 0, 1)},
		// 2 becomes small, and is taken ahead of 0, which was small from the beginning.
		{[]uint64{1, 4, 3, 0}, 8, cells(4, 1, 8, 1, 4, 1, 0, 2)},
		{[]uint64{0, 1, 0, 3, 0, 0}, 4, cells(0, 3, 4, 1, 0, 3, 2, 1, 0, 3, 0, 3)},
	} {
		want := api.Table{Total: c.total, Cells: c.cells}
		if byWords, e := model(c.l); !same(byWords, want) || e != api.OK {
			t.Errorf("of %v, the model lays %v, by hand %v", c.l, byWords, want)
		}
		isBuild(t, c.l, want, api.OK)
	}
}

func TestNoStake(t *testing.T) { // P14.1: ErrZero
	for _, l := range [][]uint64{nil, {}, {0}, {0, 0}, {0, 0, 0}, make([]uint64, 8), make([]uint64, 1000)} {
		isBuild(t, l, api.Table{}, api.ErrZero)
	}
	if got, e := Build(); !same(got, api.Table{}) || e != api.ErrZero {
		t.Error("Build() =", got, int(e))
	}
}

func TestTooMuch(t *testing.T) { // P14.1: ErrBig, also where the lowest 64 bits of the sum, or of so many times it, are 0
	for _, l := range slices.Concat(tooMuch(), tooWide()) {
		isBuild(t, l, api.Table{}, api.ErrBig)
		slices.Reverse(l)
		isBuild(t, l, api.Table{}, api.ErrBig)
	}
}

func TestJustBelow(t *testing.T) { // P14.1: so many times the sum just below 2^63, and just 2^63 and above
	for _, n := range []int{1, 2, 3, 4, 5, 7, 8, 9, 49, 64, 73, 100, 127, 128, 1000, 1 << 16} {
		greatest := uint64(top-1) / uint64(n)
		for _, at := range []int{0, n / 2, n - 1} {
			l := make([]uint64, n)
			l[at] = greatest
			if e := checkBuild(t, l); e != api.OK {
				t.Errorf("of %d stakes, the sum %d: %d", n, greatest, int(e))
			}
			table := built(t, l)
			isOwns(t, table, at, uint64(n)*greatest, api.OK)
			if size := Size(table); size != uint64(n)*greatest {
				t.Errorf("of %d stakes, the sum %d: the size %d", n, greatest, size)
			}
			l[n-1-at]++
			if e := checkBuild(t, l); e != api.ErrBig {
				t.Errorf("of %d stakes, the sum %d: %d", n, greatest+1, int(e))
			}
		}
	}
}

func TestEachSmallTable(t *testing.T) { // P14.1, P14.2: each place owns n times its stake, counted one by one
	each := func(l []uint64) {
		if checkBuild(t, l) != api.OK {
			return
		}
		table := built(t, l)
		checkRight(t, table)
		owned := counted(t, table)
		for i, stake := range l {
			if owned[i] != uint64(len(l))*stake {
				t.Errorf("of %v, the place %d owns %d", l, i, owned[i])
			}
			isOwns(t, table, i, uint64(len(l))*stake, api.OK)
		}
	}
	everyRow(4, 5, each)
	everyRow(8, 2, each)
	everyRow(6, 3, each)
	for n := range 60 {
		each(row(n, 40))
	}
}

func TestManyTables(t *testing.T) { // P14.1, P14.2
	rows := rightStakes()
	for n := range 300 {
		rows = append(rows, row(n+2, 1<<44), row(n+2, 1000))
	}
	for _, l := range rows {
		if checkBuild(t, l) != api.OK {
			t.Fatalf("%v.. of %d has no table", short(l), len(l))
		}
		table := built(t, l)
		for i, stake := range l {
			if got, e := Owns(table, i); got != uint64(len(l))*stake || e != api.OK {
				t.Errorf("of %v.. of %d, the place %d owns %d, %d", short(l), len(l), i, got, int(e))
			}
		}
	}
}

func TestBesideNoStake(t *testing.T) { // P14.1, P14.2: places without a stake ahead, among and behind own nothing
	for _, ahead := range []int{0, 1, 2, 3, 8, 17} {
		for _, among := range []int{0, 1, 2, 7, 16} {
			for _, behind := range []int{0, 1, 2, 7, 31} {
				l := slices.Concat(make([]uint64, ahead), []uint64{2}, make([]uint64, among), []uint64{3}, make([]uint64, behind))
				checkBuild(t, l)
				want := slices.Clone(l)
				for i := range want {
					want[i] *= uint64(len(l))
				}
				if owned := counted(t, built(t, l)); !slices.Equal(owned, want) {
					t.Errorf("of %v, they own %v", l, owned)
				}
			}
		}
	}
}

func TestOneStake(t *testing.T) { // P14.1, P14.2: alone, and among others of 0
	for _, stake := range []uint64{1, 2, 5, 255, 1 << 32, 7 << 40, (top - 1) / 17} {
		for n := range 18 {
			for at := range n {
				l := make([]uint64, n)
				l[at] = stake
				checkBuild(t, l)
				table := built(t, l)
				for i := range l {
					isOwns(t, table, i, uint64(n)*l[i], api.OK)
				}
				for column := range n {
					for _, offset := range []uint64{0, stake / 2, stake - 1} {
						if got, e := Lookup(table, column, offset); got != at || e != api.OK {
							t.Errorf("of %v, Lookup(%d, %d) = %d, %d", l, column, offset, got, int(e))
						}
					}
				}
			}
		}
	}
}

func TestEqualStakes(t *testing.T) { // P14.1, P14.2: each column is its own
	for _, stake := range []uint64{1, 2, 3, 1 << 20, 1 << 50} {
		for n := 1; n < 40; n++ {
			l := slices.Repeat([]uint64{stake}, n)
			table := api.Table{Total: uint64(n) * stake}
			for i := range n {
				table.Cells = append(table.Cells, api.Cell{Cut: table.Total, Alias: i})
			}
			isBuild(t, l, table, api.OK)
		}
	}
}

func TestWrongTables(t *testing.T) { // P14.1: not right, the size 0, and ErrArg ahead of ErrRange
	for _, table := range wrongTables() {
		if mayBe(table) {
			t.Fatal("it may be:", table)
		}
		if Right(table) || Size(table) != 0 {
			t.Errorf("Right(%d, %v..) = %v, Size %d", table.Total, short(table.Cells), Right(table), Size(table))
		}
		if len(table.Cells) > 1000 {
			continue
		}
		checkRight(t, table)
		checkEdges(t, table)
		for _, column := range []int{0, 1, -1, 99} {
			got, e := Lookup(table, column, 0)
			own, e2 := Owns(table, column)
			if got != 0 || e != api.ErrArg || own != 0 || e2 != api.ErrArg {
				t.Errorf("of %v: Lookup(%d) %d, %d, Owns(%d) %d, %d", table, column, got, int(e), column, own, int(e2))
			}
		}
		for _, u := range []uint64{0, 1, 31, 32, math.MaxUint64} {
			if got, e := Owner(table, u); got != 0 || e != api.ErrArg {
				t.Errorf("of %v: Owner(%d) = %d, %d", table, u, got, int(e))
			}
		}
	}
}

func TestRightTables(t *testing.T) { // P14.1
	for _, table := range rightTables(t) {
		if !Right(table) {
			t.Errorf("Right(%d, %v.. of %d) is false", table.Total, short(table.Cells), len(table.Cells))
		}
		checkRight(t, table)
		checkEdges(t, table)
	}
}

func TestEdgesByHand(t *testing.T) { // P14.1: columns, offsets and numbers just inside and just outside
	table := api.Table{Total: 4, Cells: cells(4, 0, 2, 0)}
	for _, c := range []struct {
		column int
		offset uint64
		place  int
		e      api.Errno
	}{
		{0, 0, 0, api.OK}, {0, 3, 0, api.OK}, {0, 4, 0, api.ErrRange}, {1, 0, 1, api.OK}, {1, 1, 1, api.OK}, {1, 2, 0, api.OK}, {1, 3, 0, api.OK}, {1, 4, 0, api.ErrRange},
		{2, 0, 0, api.ErrRange}, {-1, 0, 0, api.ErrRange}, {-1, 9, 0, api.ErrRange}, {1, math.MaxUint64, 0, api.ErrRange}, {math.MaxInt, 1, 0, api.ErrRange}, {math.MinInt, 1, 0, api.ErrRange}, {1 << 32, 1, 0, api.ErrRange},
	} {
		if got, e := Lookup(table, c.column, c.offset); got != c.place || e != c.e {
			t.Errorf("Lookup(%d, %d) = %d, %d, want %d, %d", c.column, c.offset, got, int(e), c.place, int(c.e))
		}
	}
	for u, want := range []int{0, 0, 0, 0, 1, 1, 0, 0} {
		if got, e := Owner(table, uint64(u)); got != want || e != api.OK {
			t.Errorf("Owner(%d) = %d, %d, want %d", u, got, int(e), want)
		}
	}
	for _, u := range []uint64{8, 9, 12, top - 1, top, math.MaxUint64, 1 << 32} {
		if got, e := Owner(table, u); got != 0 || e != api.ErrRange {
			t.Errorf("Owner(%d) = %d, %d", u, got, int(e))
		}
	}
	isOwns(t, table, 0, 6, api.OK)
	isOwns(t, table, 1, 2, api.OK)
	for _, i := range []int{2, 3, -1, math.MaxInt, math.MinInt, 1 << 32} {
		isOwns(t, table, i, 0, api.ErrRange)
	}
	if !Right(table) || Size(table) != 8 {
		t.Error("Right, Size:", Right(table), Size(table))
	}
}

// everyTable calls do with each table of up to that many cells, of a Total up to the bound, with each Cut and each Alias up to one too much, and down to one too few.
func everyTable(length int, bound uint64, do func(t api.Table)) {
	for n := range length + 1 {
		for total := range bound + 1 {
			each := []api.Cell{}
			for cut := range total + 2 {
				for other := -1; other <= n; other++ {
					each = append(each, api.Cell{Cut: cut, Alias: other})
				}
			}
			choices := 1
			for range n {
				choices *= len(each)
			}
			for v := range choices {
				var cells []api.Cell
				for range n {
					cells, v = append(cells, each[v%len(each)]), v/len(each)
				}
				do(api.Table{Total: total, Cells: cells})
			}
		}
	}
}

func TestEachTable(t *testing.T) { // P14.1: whoever laid it, also with a cell that is its own from its Cut on
	right := 0
	each := func(table api.Table) {
		size := sizeOf(table)
		if Right(table) != mayBe(table) || Size(table) != size {
			t.Errorf("of %v: Right %v, Size %d", table, Right(table), Size(table))
		}
		owned := counted(t, table)
		for i := -1; i <= len(table.Cells); i++ {
			want, wantError := uint64(0), api.ErrArg
			if mayBe(table) {
				if wantError = api.ErrRange; i >= 0 && i < len(table.Cells) {
					want, wantError = owned[i], api.OK
				}
			}
			if got, e := Owns(table, i); got != want || e != wantError {
				t.Errorf("of %v: Owns(%d) = %d, %d, want %d, %d", table, i, got, int(e), want, int(wantError))
			}
		}
		for _, u := range []uint64{size, size + 1} {
			got, e := Owner(table, u)
			if want, wantError := ownerOf(table, u); got != want || e != wantError {
				t.Errorf("of %v: Owner(%d) = %d, %d", table, u, got, int(e))
			}
		}
		if mayBe(table) {
			right++
		}
	}
	everyTable(2, 4, each)
	everyTable(3, 2, each)
	if right == 0 {
		t.Error("none may be")
	}
}

func TestOwnsOfGreatTables(t *testing.T) { // P14.1: cells of one Alias, and of their own
	c := uint64((top - 1) / 7)
	for _, x := range []struct {
		table api.Table
		owns  []uint64
	}{
		{api.Table{Total: c, Cells: make([]api.Cell, 7)}, []uint64{top - 1, 0, 0, 0, 0, 0, 0}},
		{api.Table{Total: c, Cells: slices.Repeat([]api.Cell{{Cut: c, Alias: 6}}, 7)}, []uint64{c, c, c, c, c, c, c}},
		{api.Table{Total: c, Cells: slices.Repeat([]api.Cell{{Cut: c - 1, Alias: 6}}, 7)}, []uint64{c - 1, c - 1, c - 1, c - 1, c - 1, c - 1, c + 6}},
		{api.Table{Total: top - 1, Cells: cells(0, 0)}, []uint64{top - 1}},
		{api.Table{Total: top - 1, Cells: cells(5, 0)}, []uint64{top - 1}},
		{api.Table{Total: 1<<62 - 1, Cells: cells(1, 1, 2, 0)}, []uint64{1<<62 - 2, 1 << 62}},
	} {
		checkRight(t, x.table)
		checkEdges(t, x.table)
		for i, want := range x.owns {
			isOwns(t, x.table, i, want, api.OK)
		}
	}
}

func TestSame(t *testing.T) { // P14.1: tables that differ in one field alone, and of unlike lengths, whether they may be or not
	for _, table := range slices.Concat(rightTables(t), wrongTables()) {
		if len(table.Cells) > 300 {
			continue
		}
		isSame(t, table, clone(table), true)
		other := clone(table)
		for _, total := range []uint64{table.Total + 1, table.Total - 1, table.Total ^ top, table.Total ^ 1<<32} {
			other.Total = total
			isSame(t, table, other, false)
		}
		isSame(t, table, api.Table{Total: table.Total, Cells: append(clone(table).Cells, api.Cell{})}, false)
		for i := range table.Cells {
			isSame(t, table, api.Table{Total: table.Total, Cells: table.Cells[:i]}, false)
			for _, change := range []func(c *api.Cell){
				func(c *api.Cell) { c.Cut++ }, func(c *api.Cell) { c.Cut ^= top }, func(c *api.Cell) { c.Alias++ }, func(c *api.Cell) { c.Alias ^= 1 << 32 }, func(c *api.Cell) { c.Alias = -c.Alias - 1 },
			} {
				other := clone(table)
				change(&other.Cells[i])
				isSame(t, table, other, false)
			}
		}
	}
	isSame(t, api.Table{}, api.Table{Cells: []api.Cell{}}, true)
	isSame(t, api.Table{Total: 4}, api.Table{Total: 4, Cells: []api.Cell{}}, true)
	isSame(t, api.Table{}, api.Table{Cells: cells(0, 0)}, false)
	isSame(t, api.Table{Total: 4, Cells: cells(4, 0, 2, 0)}, api.Table{Total: 4, Cells: cells(2, 0, 4, 0)}, false)
	isSame(t, api.Table{Total: 4, Cells: cells(4, 0, 2, 0)}, built(t, []uint64{3, 1}), true)
}

func TestMany(t *testing.T) { // P14.1, P14.2: the chapter has no bound for how many there are
	for _, n := range []int{most, most + 1} {
		greatest := uint64(top-1) / uint64(n)
		l := slices.Repeat([]uint64{1, 0, 7, 1 << 20, 0, 1 << 22}, n/6+1)[:n]
		left := greatest - sumOf(l).Uint64()
		l[n/2] += left
		if e := checkBuild(t, l); e != api.OK {
			t.Fatal(n, int(e))
		}
		table := built(t, l)
		for _, i := range []int{0, 1, 5, n / 2, n/2 + 1, n - 1} {
			isOwns(t, table, i, uint64(n)*l[i], api.OK)
		}
		checkRight(t, table)
		checkOwner(t, table, Size(table)-1)
		checkOwner(t, table, Size(table))
		checkLookup(t, table, n-1, table.Total-1)
		checkLookup(t, table, n, 0)
		l[1]++
		isBuild(t, l, api.Table{}, api.ErrBig)
		clear(l)
		isBuild(t, l, api.Table{}, api.ErrZero)
	}
}

func TestCallsBesideEachOther(t *testing.T) { // P14.1: nothing is kept: what one call answers stays as it is, whatever comes behind it
	first, second := []uint64{3, 0, 2, 9, 1}, []uint64{1, 5, 0}
	a := built(t, first)
	was := clone(a)
	b := built(t, second)
	built(t, first)
	for i := range b.Cells {
		b.Cells[i] = api.Cell{}
	}
	if !same(a, was) || !same(built(t, first), was) {
		t.Error("a table that was answered changed:", a, was)
	}
}
