package scan

import (
	"math"
	"math/big"
	"slices"
	"testing"

	"drawlot/api"
	"drawlot/fen"
)

const (
	top  = 1 << 63
	most = 1 << 20
)

// mixed are numbers without a visible order.
type mixed uint64

func (m *mixed) next() uint64 {
	*m = *m*6364136223846793005 + 1442695040888963407
	return uint64(*m) >> 16
}

// row is n stakes below the bound, about a third of them 0.
func row(n int, bound uint64) []uint64 {
	m, l := mixed(uint64(n)*31+bound), make([]uint64, n)
	for i := range l {
		if m.next()%3 != 0 {
			l[i] = m.next() % bound
		}
	}
	return l
}

// plainTotal is the sum of l, or that it is too much, by numbers without an end.
func plainTotal(l []uint64) (uint64, api.Errno) {
	sum := new(big.Int)
	for _, s := range l {
		sum.Add(sum, new(big.Int).SetUint64(s))
	}
	if sum.BitLen() > 63 {
		return 0, api.ErrBig
	}
	return sum.Uint64(), api.OK
}

// plainOwner is the one place such that the sum ahead of it isn't above the ticket, and with its own stake is.
func plainOwner(ticket uint64, l []uint64) (int, api.Errno) {
	sum, e := plainTotal(l)
	if e != api.OK {
		return 0, e
	}
	if ticket >= sum {
		return 0, api.ErrRange
	}
	found, behind := 0, sum
	// From behind, unlike what is tested.
	for i, s := range slices.Backward(l) {
		behind -= s
		if behind <= ticket && ticket < behind+s {
			found = i
		}
	}
	return found, api.OK
}

// guarded is memory with other numbers ahead of and in the spare room behind what is handed in.
type guarded struct{ all, was []uint64 }

func guard(l []uint64) guarded {
	all := slices.Concat([]uint64{91, 92}, l, []uint64{93, 94, 95})
	return guarded{all, slices.Clone(all)}
}

func (g guarded) inner() []uint64 { return g.all[2 : len(g.all)-3] }

func (g guarded) check(t *testing.T, name string) {
	t.Helper()
	if !slices.Equal(g.all, g.was) {
		t.Errorf("%s changed what was handed in: %v, was %v", name, short(g.all), short(g.was))
	}
}

// scribble writes into all of an answer, its spare room too.
func scribble(l []uint64) {
	l = l[:cap(l)]
	for i := range l {
		l[i] ^= 0x5555
	}
}

// short is the beginning of l.
func short(l []uint64) []uint64 { return l[:min(len(l), 12)] }

func checkTotal(t *testing.T, l []uint64) {
	t.Helper()
	g := guard(l)
	want, wantError := plainTotal(l)
	for range 2 {
		if got, e := Total(g.inner()...); got != want || e != wantError {
			t.Errorf("Total(%v..) of %d = %d, %d, want %d, %d", short(l), len(l), got, e, want, wantError)
		}
	}
	g.check(t, "Total")
}

func checkPositive(t *testing.T, l []uint64) {
	t.Helper()
	g := guard(l)
	want := len(slices.DeleteFunc(slices.Clone(l), func(s uint64) bool { return s == 0 }))
	for range 2 {
		if got := Positive(g.inner()...); got != want {
			t.Errorf("Positive(%v..) of %d = %d, want %d", short(l), len(l), got, want)
		}
	}
	g.check(t, "Positive")
}

func checkOwner(t *testing.T, ticket uint64, l []uint64) {
	t.Helper()
	g := guard(l)
	want, wantError := plainOwner(ticket, l)
	for range 2 {
		if got, e := Owner(ticket, g.inner()...); got != want || e != wantError {
			t.Errorf("Owner(%d, %v..) of %d = %d, %d, want %d, %d", ticket, short(l), len(l), got, e, want, wantError)
		}
	}
	g.check(t, "Owner")
}

func checkWithout(t *testing.T, i int, l []uint64) {
	t.Helper()
	g := guard(l)
	out, e := Without(i, g.inner()...)
	g.check(t, "Without")
	if i < 0 || i >= len(l) {
		if len(out) != 0 || e != api.ErrRange {
			t.Errorf("Without(%d, %v..) of %d = %v, %d, want ErrRange", i, short(l), len(l), short(out), e)
		}
		return
	}
	want := slices.Concat(l[:i], []uint64{0}, l[i+1:])
	if e != api.OK || !slices.Equal(out, want) {
		t.Errorf("Without(%d, %v..) of %d = %v.., %d", i, short(l), len(l), short(out), e)
	}
	scribble(out)
	g.check(t, "who writes into Without's answer")
	again, e := Without(i, g.inner()...)
	scribble(g.all)
	if e != api.OK || !slices.Equal(again, want) {
		t.Errorf("Without(%d, %v..) again, then written into what was handed in: %v.., %d", i, short(l), short(again), e)
	}
}

// checkBorders asks for the owners at each border between two places, and of the sum and beyond; l must be short.
func checkBorders(t *testing.T, l []uint64) {
	t.Helper()
	border := uint64(0)
	for _, s := range l {
		for _, ticket := range []uint64{border, border + 1, border + s/2, border + s - 1, border - 1} {
			checkOwner(t, ticket, l)
		}
		border += s
	}
	for _, ticket := range []uint64{border, border - 1, border + 1, top - 1, top, top + 1, math.MaxUint64} {
		checkOwner(t, ticket, l)
	}
}

// checkTree holds the owner of a ticket against that of a tree of the same stakes, errors too.
func checkTree(t *testing.T, f api.Fen, l []uint64, ticket uint64) {
	t.Helper()
	got, e := Owner(ticket, l...)
	if want, wantError := fen.Owner(f, ticket); got != want || e != wantError {
		t.Errorf("Owner(%d, %v..) of %d = %d, %d, the tree's %d, %d", ticket, short(l), len(l), got, e, want, wantError)
	}
}

// tree is the tree of l, which may be.
func tree(t *testing.T, l []uint64) api.Fen {
	t.Helper()
	f, e := fen.Build(l...)
	if e != api.OK {
		t.Fatalf("fen.Build(%v..) of %d: %v", short(l), len(l), e)
	}
	return f
}

// checkAll holds each call with l against plain answers.
func checkAll(t *testing.T, l []uint64) {
	t.Helper()
	checkTotal(t, l)
	checkPositive(t, l)
	checkBorders(t, l)
	for _, i := range []int{-1, -2, math.MinInt, len(l), len(l) + 1, 2*len(l) + 1, math.MaxInt} {
		checkWithout(t, i, l)
	}
	for i := range l {
		checkWithout(t, i, l)
	}
}

// everyRow calls do with each row of up to that many stakes below the bound.
func everyRow(length int, bound uint64, do func(l []uint64)) {
	rows := [][]uint64{nil}
	for range length + 1 {
		var longer [][]uint64
		for _, l := range rows {
			do(slices.Clone(l))
			for s := range bound {
				longer = append(longer, slices.Concat(l, []uint64{s}))
			}
		}
		rows = longer
	}
}

// tooMuch are rows whose sum is 2^63 or more; of some the lowest 64 bits alone would do.
func tooMuch() [][]uint64 {
	return [][]uint64{
		{top},
		{top + 1},
		{math.MaxUint64},
		{top - 1, 1},
		{1, top - 1},
		{1, 0, 0, top - 1, 0},
		{1 << 62, 1 << 62},
		{1 << 62, 1<<62 - 1, 0, 1},
		{top, top},
		{top, 0, top, 5},
		{math.MaxUint64, 1},
		{1, math.MaxUint64},
		{0, math.MaxUint64, 1, 0},
		{math.MaxUint64, 2, 7},
		{math.MaxUint64, math.MaxUint64, 2},
		{top - 1, top - 1, 2, 7},
		{1 << 62, 1 << 62, 1 << 62, 1 << 62},
		{1 << 62, 1 << 62, 1 << 62, 1 << 62, 3},
	}
}

func TestOwnerByHand(t *testing.T) { // P12.1
	for _, c := range []struct {
		ticket uint64
		l      []uint64
		owner  int
		want   api.Errno
	}{
		{0, nil, 0, api.ErrRange},
		{math.MaxUint64, nil, 0, api.ErrRange},
		{0, []uint64{0}, 0, api.ErrRange},
		{0, []uint64{0, 0, 0}, 0, api.ErrRange},
		{0, []uint64{1}, 0, api.OK},
		{1, []uint64{1}, 0, api.ErrRange},
		{0, []uint64{3, 0, 2}, 0, api.OK},
		{1, []uint64{3, 0, 2}, 0, api.OK},
		{2, []uint64{3, 0, 2}, 0, api.OK},
		{3, []uint64{3, 0, 2}, 2, api.OK},
		{4, []uint64{3, 0, 2}, 2, api.OK},
		{5, []uint64{3, 0, 2}, 0, api.ErrRange},
		{6, []uint64{3, 0, 2}, 0, api.ErrRange},
		{math.MaxUint64, []uint64{3, 0, 2}, 0, api.ErrRange},
		{0, []uint64{0, 0, 4, 0}, 2, api.OK},
		{3, []uint64{0, 0, 4, 0}, 2, api.OK},
		{4, []uint64{0, 0, 4, 0}, 0, api.ErrRange},
		{1, []uint64{1, 0, 0, 1, 0, 0}, 3, api.OK},
		{2, []uint64{1, 0, 0, 1, 0, 0}, 0, api.ErrRange},
		{0, []uint64{top - 1}, 0, api.OK},
		{top - 2, []uint64{top - 1}, 0, api.OK},
		{top - 1, []uint64{top - 1}, 0, api.ErrRange},
		{top, []uint64{top - 1}, 0, api.ErrRange},
		{0, []uint64{1, top - 2}, 0, api.OK},
		{1, []uint64{1, top - 2}, 1, api.OK},
		{top - 2, []uint64{1, top - 2}, 1, api.OK},
		{top - 1, []uint64{1, top - 2}, 0, api.ErrRange},
		{top - 3, []uint64{top - 2, 1}, 0, api.OK},
		{top - 2, []uint64{top - 2, 1}, 1, api.OK},
	} {
		if got, e := Owner(c.ticket, c.l...); got != c.owner || e != c.want {
			t.Errorf("Owner(%d, %v) = %d, %d, want %d, %d", c.ticket, c.l, got, e, c.owner, c.want)
		}
	}
}

func TestOwnerBesideNoStake(t *testing.T) { // P12.1, P12.2
	for _, ahead := range []int{0, 1, 2, 3, 8, 17} {
		for _, among := range []int{0, 1, 2, 4, 7, 16} {
			for _, behind := range []int{0, 1, 2, 7, 31} {
				l := slices.Concat(make([]uint64, ahead), []uint64{2}, make([]uint64, among), []uint64{3}, make([]uint64, behind))
				checkBorders(t, l)
				f := tree(t, l)
				for ticket, want := range []int{ahead, ahead, ahead + 1 + among, ahead + 1 + among, ahead + 1 + among} {
					if got, e := Owner(uint64(ticket), l...); got != want || e != api.OK {
						t.Errorf("Owner(%d, %v) = %d, %d, want %d", ticket, l, got, e, want)
					}
					checkTree(t, f, l, uint64(ticket))
				}
			}
		}
	}
}

func TestTotalByHand(t *testing.T) { // P12.1
	for _, c := range []struct {
		l    []uint64
		want uint64
	}{
		{nil, 0},
		{[]uint64{}, 0},
		{[]uint64{0}, 0},
		{[]uint64{0, 0, 0}, 0},
		{[]uint64{7}, 7},
		{[]uint64{3, 0, 2}, 5},
		{[]uint64{top - 1}, top - 1},
		{[]uint64{0, top - 1, 0}, top - 1},
		{[]uint64{top - 2}, top - 2},
		{[]uint64{1, top - 2}, top - 1},
		{[]uint64{top - 2, 1}, top - 1},
		{[]uint64{1 << 62, 1<<62 - 1}, top - 1},
		{[]uint64{1 << 62, 0, 1 << 61, 1<<61 - 1}, top - 1},
	} {
		if got, e := Total(c.l...); got != c.want || e != api.OK {
			t.Errorf("Total(%v) = %d, %d, want %d", c.l, got, e, c.want)
		}
		checkAll(t, c.l)
	}
}

func TestTooMuch(t *testing.T) { // P12.1
	for _, l := range tooMuch() {
		if got, e := Total(l...); got != 0 || e != api.ErrBig {
			t.Errorf("Total(%v) = %d, %d, want ErrBig", l, got, e)
		}
		// ErrBig stands ahead of ErrRange: also of tickets that would be out of range of any sum.
		for _, ticket := range []uint64{0, 1, 5, top - 1, top, math.MaxUint64} {
			if got, e := Owner(ticket, l...); got != 0 || e != api.ErrBig {
				t.Errorf("Owner(%d, %v) = %d, %d, want ErrBig", ticket, l, got, e)
			}
		}
		// Neither of these asks for the sum.
		checkAll(t, l)
	}
}

func TestPositiveByHand(t *testing.T) { // P12.1
	for _, c := range []struct {
		l    []uint64
		want int
	}{
		{nil, 0},
		{[]uint64{}, 0},
		{[]uint64{0}, 0},
		{[]uint64{0, 0, 0, 0}, 0},
		{[]uint64{1}, 1},
		{[]uint64{3, 0, 2}, 2},
		{[]uint64{0, 3, 2, 0}, 2},
		{[]uint64{1, 1, 1}, 3},
		{[]uint64{top - 1, top, 0, top + 1, math.MaxUint64}, 4},
	} {
		if got := Positive(c.l...); got != c.want {
			t.Errorf("Positive(%v) = %d, want %d", c.l, got, c.want)
		}
	}
}

func TestWithoutByHand(t *testing.T) { // P12.1
	for _, c := range []struct {
		i      int
		l, out []uint64
		want   api.Errno
	}{
		{0, []uint64{3, 0, 2}, []uint64{0, 0, 2}, api.OK},
		{1, []uint64{3, 0, 2}, []uint64{3, 0, 2}, api.OK},
		{2, []uint64{3, 0, 2}, []uint64{3, 0, 0}, api.OK},
		{0, []uint64{9}, []uint64{0}, api.OK},
		{0, []uint64{0}, []uint64{0}, api.OK},
		{1, []uint64{math.MaxUint64, top, math.MaxUint64}, []uint64{math.MaxUint64, 0, math.MaxUint64}, api.OK},
		{-1, []uint64{3, 0, 2}, nil, api.ErrRange},
		{3, []uint64{3, 0, 2}, nil, api.ErrRange},
		{math.MinInt, []uint64{3, 0, 2}, nil, api.ErrRange},
		{math.MaxInt, []uint64{3, 0, 2}, nil, api.ErrRange},
		{1, []uint64{9}, nil, api.ErrRange},
		{0, nil, nil, api.ErrRange},
		{-1, nil, nil, api.ErrRange},
		{0, []uint64{}, nil, api.ErrRange},
		{3, []uint64{top, top, top}, nil, api.ErrRange},
	} {
		if got, e := Without(c.i, c.l...); e != c.want || !slices.Equal(got, c.out) {
			t.Errorf("Without(%d, %v) = %v, %d, want %v, %d", c.i, c.l, got, e, c.out, c.want)
		}
	}
}

func TestEveryRow(t *testing.T) { // P12.1, P12.2
	check := func(l []uint64) {
		checkAll(t, l)
		f := tree(t, l)
		owned := make([]uint64, len(l))
		for ticket := range fen.Total(f) + 3 {
			checkTree(t, f, l, ticket)
			if i, e := Owner(ticket, l...); e == api.OK {
				owned[i]++
			}
		}
		if !slices.Equal(owned, l) {
			t.Errorf("of the stakes %v there are owned %v", l, owned)
		}
	}
	everyRow(5, 4, check)
	everyRow(9, 2, check)
}

func TestAsTheTree(t *testing.T) { // P12.2
	for n := range 130 {
		for _, bound := range []uint64{2, 9, 1000, 1 << 55} {
			l := row(n, bound)
			f := tree(t, l)
			border := uint64(0)
			for _, s := range l {
				for _, ticket := range []uint64{border, border + s/3, border + s - 1} {
					checkTree(t, f, l, ticket)
				}
				border += s
			}
			for _, ticket := range []uint64{border, border + 1, top, math.MaxUint64} {
				checkTree(t, f, l, ticket)
			}
		}
	}
}

func TestMany(t *testing.T) { // P12.1, P12.2
	l := slices.Repeat([]uint64{1 << 43, 0, 1 << 44, 1 << 43}, most/4)
	l[most-1]--
	f := tree(t, l)
	for _, ticket := range []uint64{0, 1<<43 - 1, 1 << 43, 1<<43 + 1<<44 - 1, 1 << 62, 1<<62 - 1, top - 3, top - 2, top - 1, top, math.MaxUint64} {
		checkOwner(t, ticket, l)
		checkTree(t, f, l, ticket)
	}
	checkTotal(t, l)
	checkPositive(t, l)
	for _, i := range []int{-1, 0, 1, most / 2, most - 1, most, most + 1} {
		checkWithout(t, i, l)
	}
	l[1]++
	checkTotal(t, l)
	checkOwner(t, 0, l)
}

func TestMoreThanATree(t *testing.T) { // P12.1
	// No bound on how many is named here.
	l := slices.Repeat([]uint64{1}, most+2)
	checkTotal(t, l)
	checkPositive(t, l)
	for _, ticket := range []uint64{0, most - 1, most, most + 1, most + 2} {
		checkOwner(t, ticket, l)
	}
	for _, i := range []int{0, most + 1, most + 2} {
		checkWithout(t, i, l)
	}
}
