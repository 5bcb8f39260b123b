package fen

import (
	"math"
	"math/big"
	"slices"
	"testing"

	"drawlot/api"
)

const (
	top  = 1 << 63
	most = 1 << 20
)

// mixed are numbers without a visible order.
type mixed uint64

func (m *mixed) next() uint64 {
	*m = *m*6364136223846793005 + 1442695040888963407
	return uint64(*m) >> 16
}

// row is n stakes below the bound, about a third of them 0.
func row(n int, bound uint64) []uint64 {
	m, l := mixed(uint64(n)*31+bound), make([]uint64, n)
	for i := range l {
		if m.next()%3 != 0 {
			l[i] = m.next() % bound
		}
	}
	return l
}

// lowest is the lowest bit of n, by halves.
func lowest(n int) int {
	bit := 1
	for n%2 == 0 {
		n, bit = n/2, bit*2
	}
	return bit
}

// plainTree is the tree of l, each number as the chapter's words say.
func plainTree(l []uint64) []uint64 {
	tree := make([]uint64, len(l))
	for i := range l {
		for _, s := range l[i+1-lowest(i+1) : i+1] {
			tree[i] += s
		}
	}
	return tree
}

// plainOwner is the owner of the ticket, by going through l; -1, if there is none.
func plainOwner(l []uint64, ticket uint64) int {
	ahead := uint64(0)
	for i, s := range l {
		if ahead <= ticket && ticket < ahead+s {
			return i
		}
		ahead += s
	}
	return -1
}

// plainError is what the chapter answers, if l are the stakes that there would be.
func plainError(l []uint64) api.Errno {
	sum := new(big.Int)
	for _, s := range l {
		sum.Add(sum, new(big.Int).SetUint64(s))
	}
	switch {
	case len(l) > most:
		return api.ErrMany
	case sum.BitLen() > 63:
		return api.ErrBig
	}
	return api.OK
}

// guarded is memory with other numbers ahead of and in the spare room behind what is handed in.
type guarded struct{ all, was []uint64 }

func guard(l []uint64) guarded {
	all := slices.Concat([]uint64{91, 92}, l, []uint64{93, 94, 95})
	return guarded{all, slices.Clone(all)}
}

func (g guarded) inner() []uint64 { return g.all[2 : len(g.all)-3] }

func (g guarded) fen() api.Fen { return api.Fen{Tree: g.inner()} }

func (g guarded) check(t *testing.T, name string) {
	t.Helper()
	if !slices.Equal(g.all, g.was) {
		t.Errorf("%s changed what was handed in: %v, was %v", name, short(g.all), short(g.was))
	}
}

// scribble writes into all of an answer, its spare room too.
func scribble(l []uint64) {
	l = l[:cap(l)]
	for i := range l {
		l[i] ^= 0x5555
	}
}

// short is the beginning of l.
func short(l []uint64) []uint64 { return l[:min(len(l), 12)] }

// build is the tree of l, which may be.
func build(t *testing.T, l []uint64) api.Fen {
	t.Helper()
	f, e := Build(l...)
	if e != api.OK {
		t.Fatalf("Build(%v..) of %d: %v", short(l), len(l), e)
	}
	return f
}

// checkTree holds a tree that was answered against the stakes that it ought to have: the tree's numbers, or the error and no tree.
func checkTree(t *testing.T, name string, f api.Fen, e api.Errno, l []uint64) {
	t.Helper()
	want := plainError(l)
	if e != want {
		t.Errorf("%s, then %v.. of %d: the error %d, want %d", name, short(l), len(l), e, want)
	}
	if want != api.OK {
		if len(f.Tree) != 0 {
			t.Errorf("%s, then %v.. of %d: a tree beside an error", name, short(l), len(l))
		}
		return
	}
	if !slices.Equal(f.Tree, plainTree(l)) {
		t.Errorf("%s, then %v.. of %d: the tree %v..", name, short(l), len(l), short(f.Tree))
	}
}

func checkBuild(t *testing.T, l []uint64) {
	t.Helper()
	g := guard(l)
	f, e := Build(g.inner()...)
	g.check(t, "Build")
	checkTree(t, "Build", f, e, l)
	scribble(f.Tree)
	g.check(t, "who writes into Build's answer")
	again, e := Build(g.inner()...)
	scribble(g.all)
	checkTree(t, "Build again", again, e, l)
}

func checkSet(t *testing.T, l []uint64, i int, stake uint64) {
	t.Helper()
	g := guard(plainTree(l))
	f, e := Set(g.fen(), i, stake)
	g.check(t, "Set")
	if i < 0 || i >= len(l) {
		if e != api.ErrRange || len(f.Tree) != 0 {
			t.Errorf("Set(%v, %d, %d) = %v, %d, want ErrRange", short(l), i, stake, f, e)
		}
		return
	}
	after := slices.Clone(l)
	after[i] = stake
	checkTree(t, "Set", f, e, after)
	scribble(f.Tree)
	g.check(t, "who writes into Set's answer")
	again, e := Set(g.fen(), i, stake)
	scribble(g.all)
	checkTree(t, "Set again", again, e, after)
}

func checkGrow(t *testing.T, l []uint64, stake uint64) {
	t.Helper()
	g := guard(plainTree(l))
	f, e := Grow(g.fen(), stake)
	g.check(t, "Grow")
	after := slices.Concat(l, []uint64{stake})
	checkTree(t, "Grow", f, e, after)
	scribble(f.Tree)
	g.check(t, "who writes into Grow's answer")
	again, e := Grow(g.fen(), stake)
	scribble(g.all)
	checkTree(t, "Grow again", again, e, after)
}

// checkPlaces holds what a tree tells of its places against a list, that of wrong ones too.
func checkPlaces(t *testing.T, l []uint64) {
	t.Helper()
	g := guard(plainTree(l))
	f := g.fen()
	sum := uint64(0)
	for i := 0; i <= len(l); i++ {
		if got, e := Prefix(f, i); got != sum || e != api.OK {
			t.Errorf("Prefix(%v, %d) = %d, %d, want %d", short(l), i, got, e, sum)
		}
		if i == len(l) {
			break
		}
		if got, e := At(f, i); got != l[i] || e != api.OK {
			t.Errorf("At(%v, %d) = %d, %d, want %d", short(l), i, got, e, l[i])
		}
		sum += l[i]
	}
	if Len(f) != len(l) || Total(f) != sum {
		t.Errorf("of %v: the length %d, the total %d, want %d, %d", short(l), Len(f), Total(f), len(l), sum)
	}
	for _, n := range []int{-1, -2, math.MinInt, len(l) + 1, len(l) + 2, 2*len(l) + 1, math.MaxInt} {
		if got, e := Prefix(f, n); got != 0 || e != api.ErrRange {
			t.Errorf("Prefix(%v, %d) = %d, %d, want ErrRange", short(l), n, got, e)
		}
	}
	for _, i := range []int{-1, -2, math.MinInt, len(l), len(l) + 1, 2*len(l) + 1, math.MaxInt} {
		if got, e := At(f, i); got != 0 || e != api.ErrRange {
			t.Errorf("At(%v, %d) = %d, %d, want ErrRange", short(l), i, got, e)
		}
	}
	got := Stakes(f)
	if !slices.Equal(got, l) {
		t.Errorf("Stakes(%v) = %v", short(l), short(got))
	}
	scribble(got)
	g.check(t, "who looks, and writes into what Stakes answers,")
}

// checkTicket holds the owner of a ticket against a list.
func checkTicket(t *testing.T, f api.Fen, l []uint64, ticket uint64) {
	t.Helper()
	want, wantError := plainOwner(l, ticket), api.OK
	if want < 0 {
		want, wantError = 0, api.ErrRange
	}
	if got, e := Owner(f, ticket); got != want || e != wantError {
		t.Errorf("Owner(%v, %d) = %d, %d, want %d, %d", short(l), ticket, got, e, want, wantError)
	}
}

// checkBorders asks for the owners at each border between two places, and of the sum and beyond; l must be short.
func checkBorders(t *testing.T, l []uint64) {
	t.Helper()
	g := guard(plainTree(l))
	border := uint64(0)
	for _, s := range l {
		for _, ticket := range []uint64{border, border + 1, border + s/2, border + s - 1, border - 1} {
			checkTicket(t, g.fen(), l, ticket)
		}
		border += s
	}
	for _, ticket := range []uint64{border, border - 1, border + 1, top - 1, top, top + 1, math.MaxUint64} {
		checkTicket(t, g.fen(), l, ticket)
	}
	g.check(t, "Owner")
}

// checkCounts gives out each ticket, and counts who owns how many.
func checkCounts(t *testing.T, f api.Fen, l []uint64) {
	t.Helper()
	owned := make([]uint64, len(l))
	for ticket := range Total(f) {
		i, e := Owner(f, ticket)
		if e != api.OK || i < 0 || i >= len(l) {
			t.Fatalf("Owner(%v, %d) = %d, %d", short(l), ticket, i, e)
		}
		owned[i]++
	}
	if !slices.Equal(owned, l) {
		t.Errorf("of the stakes %v there are owned %v", short(l), short(owned))
	}
}

// everyRow calls do with each row of up to that many stakes below the bound.
func everyRow(length int, bound uint64, do func(l []uint64)) {
	rows := [][]uint64{nil}
	for range length + 1 {
		var longer [][]uint64
		for _, l := range rows {
			do(slices.Clone(l))
			for s := range bound {
				longer = append(longer, slices.Concat(l, []uint64{s}))
			}
		}
		rows = longer
	}
}

// lengths are all up to 40, and those about powers of two.
func lengths() []int {
	var out []int
	for n := range 41 {
		out = append(out, n)
	}
	for n := 64; n <= 4096; n *= 2 {
		out = append(out, n-1, n, n+1)
	}
	return out
}

func TestBuildByHand(t *testing.T) { // P11.1
	for _, c := range []struct{ stakes, tree []uint64 }{
		{nil, nil},
		{[]uint64{}, nil},
		{[]uint64{0}, []uint64{0}},
		{[]uint64{7}, []uint64{7}},
		{[]uint64{7, 4}, []uint64{7, 11}},
		{[]uint64{7, 4, 1}, []uint64{7, 11, 1}},
		{[]uint64{3, 0, 2, 5}, []uint64{3, 3, 2, 10}},
		{[]uint64{3, 0, 2, 5, 0}, []uint64{3, 3, 2, 10, 0}},
		{[]uint64{0, 0, 0, 0, 0}, []uint64{0, 0, 0, 0, 0}},
		{[]uint64{1, 2, 4, 8, 16, 32, 64}, []uint64{1, 3, 4, 15, 16, 48, 64}},
		{[]uint64{1, 2, 4, 8, 16, 32, 64, 128}, []uint64{1, 3, 4, 15, 16, 48, 64, 255}},
		{[]uint64{1, 2, 4, 8, 16, 32, 64, 128, 256}, []uint64{1, 3, 4, 15, 16, 48, 64, 255, 256}},
		{[]uint64{1, top - 2}, []uint64{1, top - 1}},
	} {
		f, e := Build(c.stakes...)
		if e != api.OK || !slices.Equal(f.Tree, c.tree) {
			t.Errorf("Build(%v) = %v, %d, want %v", c.stakes, f.Tree, e, c.tree)
		}
	}
}

func TestBuildTooMuch(t *testing.T) { // P11.1
	for _, c := range []struct {
		stakes []uint64
		want   api.Errno
	}{
		{[]uint64{top - 1}, api.OK},
		{[]uint64{0, 0, top - 1, 0}, api.OK},
		{[]uint64{1 << 62, 1<<62 - 1}, api.OK},
		{[]uint64{top}, api.ErrBig},
		{[]uint64{math.MaxUint64}, api.ErrBig},
		{[]uint64{1 << 62, 1 << 62}, api.ErrBig},
		{[]uint64{top - 1, 1}, api.ErrBig},
		{[]uint64{1, 0, 0, 0, top - 1}, api.ErrBig},
		// Sums of 2^64 and more: their lowest 64 bits alone would do.
		{[]uint64{top, top}, api.ErrBig},
		{[]uint64{math.MaxUint64, 1}, api.ErrBig},
		{[]uint64{1, math.MaxUint64, 5}, api.ErrBig},
		{[]uint64{1 << 62, 1 << 62, 1 << 62, 1 << 62}, api.ErrBig},
		{[]uint64{top - 1, top - 1, 2, 7}, api.ErrBig},
		{[]uint64{math.MaxUint64, math.MaxUint64, 2}, api.ErrBig},
	} {
		if f, e := Build(c.stakes...); e != c.want || (e != api.OK && len(f.Tree) != 0) {
			t.Errorf("Build(%v) = %v, %d, want the error %d", c.stakes, f.Tree, e, c.want)
		}
		checkBuild(t, c.stakes)
	}
}

func TestBuildMany(t *testing.T) { // P11.1
	for _, c := range []struct {
		n          int
		each, last uint64
		want       api.Errno
	}{
		{most - 1, 0, 0, api.OK},
		{most - 1, 1<<43 - 1, 1 << 43, api.OK},
		{most, 0, 0, api.OK},
		{most, 1 << 43, 1<<43 - 1, api.OK},
		{most, 1 << 43, 1 << 43, api.ErrBig},
		{most, 1 << 44, 1 << 44, api.ErrBig},
		{most + 1, 0, 0, api.ErrMany},
		{most + 1, 0, 1, api.ErrMany},
		// More than there may be, and too much as well.
		{most + 1, 1 << 43, 0, api.ErrMany},
		{most + 1, math.MaxUint64, math.MaxUint64, api.ErrMany},
		{2 * most, 1, 1, api.ErrMany},
	} {
		l := slices.Repeat([]uint64{c.each}, c.n)
		l[c.n-1] = c.last
		f, e := Build(l...)
		if e != c.want {
			t.Errorf("Build of %d of %d, the last %d: the error %d, want %d", c.n, c.each, c.last, e, c.want)
		}
		checkTree(t, "Build", f, e, l)
	}
}

func TestEveryRow(t *testing.T) { // P11.1, P11.3
	everyRow(5, 4, func(l []uint64) {
		checkBuild(t, l)
		checkPlaces(t, l)
		checkBorders(t, l)
		f := build(t, l)
		checkCounts(t, f, l)
		for i := -1; i <= len(l); i++ {
			for _, stake := range []uint64{0, 1, 5} {
				checkSet(t, l, i, stake)
			}
		}
		for _, stake := range []uint64{0, 1, 5} {
			checkGrow(t, l, stake)
		}
	})
}

func TestRowsOfZeroAndOne(t *testing.T) { // P11.1, P11.3
	everyRow(10, 2, func(l []uint64) {
		checkPlaces(t, l)
		checkBorders(t, l)
		checkCounts(t, build(t, l), l)
	})
}

func TestLengths(t *testing.T) { // P11.1, P11.3
	for _, n := range lengths() {
		l := row(n, 9)
		checkBuild(t, l)
		checkPlaces(t, l)
		checkCounts(t, build(t, l), l)
		checkGrow(t, l, 3)
		for _, i := range []int{-1, 0, 1, n / 2, n - 2, n - 1, n, n + 1, math.MinInt, math.MaxInt} {
			checkSet(t, l, i, 6)
			checkSet(t, l, i, 0)
		}
		if n <= 300 {
			checkBorders(t, row(n, 1<<50))
		}
	}
}

func TestSetByHand(t *testing.T) { // P11.1
	l := []uint64{3, 0, 2, 5, 1}
	for _, c := range []struct {
		i     int
		stake uint64
		tree  []uint64
		want  api.Errno
	}{
		{0, 9, []uint64{9, 9, 2, 16, 1}, api.OK},
		{0, 3, []uint64{3, 3, 2, 10, 1}, api.OK},
		{0, 0, []uint64{0, 0, 2, 7, 1}, api.OK},
		{1, 4, []uint64{3, 7, 2, 14, 1}, api.OK},
		{1, 0, []uint64{3, 3, 2, 10, 1}, api.OK},
		{2, 1, []uint64{3, 3, 1, 9, 1}, api.OK},
		{3, 0, []uint64{3, 3, 2, 5, 1}, api.OK},
		{4, 8, []uint64{3, 3, 2, 10, 8}, api.OK},
		{4, top - 11, []uint64{3, 3, 2, 10, top - 11}, api.OK},
		{4, top - 10, nil, api.ErrBig},
		{0, top - 9, []uint64{top - 9, top - 9, 2, top - 2, 1}, api.OK},
		{0, top - 8, nil, api.ErrBig},
		{1, top - 11, nil, api.ErrBig},
		{3, math.MaxUint64, nil, api.ErrBig},
		{3, math.MaxUint64 - 4, nil, api.ErrBig},
		{-1, 2, nil, api.ErrRange},
		{5, 2, nil, api.ErrRange},
		// No such place, and too much as well.
		{-1, top, nil, api.ErrRange},
		{5, top, nil, api.ErrRange},
		{5, math.MaxUint64, nil, api.ErrRange},
	} {
		f, e := Set(build(t, l), c.i, c.stake)
		if e != c.want || !slices.Equal(f.Tree, c.tree) {
			t.Errorf("Set(%v, %d, %d) = %v, %d, want %v, %d", l, c.i, c.stake, f.Tree, e, c.tree, c.want)
		}
		checkSet(t, l, c.i, c.stake)
	}
}

func TestSetTooMuch(t *testing.T) { // P11.1
	for _, l := range [][]uint64{
		{top - 1}, {0}, {1, top - 2}, {top - 2, 1}, {1 << 62, 1<<62 - 1}, {0, 0, top - 1, 0, 0}, {5, 0, 1 << 61, 1 << 61, 0, 7, 1<<62 - 13},
	} {
		for i, old := range l {
			rest := Total(build(t, l)) - old
			for _, stake := range []uint64{0, 1, old, old - 1, old + 1, top - 1 - rest, top - rest, top + 1 - rest, top - 1, top, top + 1, -rest, 1 - rest, -rest - 1, math.MaxUint64} {
				checkSet(t, l, i, stake)
			}
		}
	}
	if f, e := Set(api.Fen{}, 0, 0); e != api.ErrRange || len(f.Tree) != 0 {
		t.Error("Set of no stakes at all:", f, e)
	}
}

func TestGrowTooMuch(t *testing.T) { // P11.1
	for _, l := range [][]uint64{
		nil, {0}, {3}, {top - 1}, {1, top - 2}, {1 << 62, 1<<62 - 1}, {1 << 62, 0, 5}, {1, 2, 4, 8}, {1, 2, 4, 8, 16, 32, 64}, {0, 0, 0, top - 1, 0, 0, 0},
	} {
		sum := Total(build(t, l))
		for _, stake := range []uint64{0, 1, top - 1 - sum, top - sum, top + 1 - sum, top - 1, top, top + 1, -sum, 1 - sum, -sum - 1, math.MaxUint64} {
			checkGrow(t, l, stake)
		}
	}
}

func TestGrowFromNone(t *testing.T) { // P11.1, P11.2
	l := row(300, 1000)
	f := api.Fen{}
	for i, s := range l {
		next, e := Grow(f, s)
		checkTree(t, "Grow", next, e, l[:i+1])
		if Len(f) != i || !Same(next, build(t, l[:i+1])) {
			t.Error("grown to", i+1)
		}
		f = next
	}
}

func TestGreatest(t *testing.T) { // P11.1, P11.2, P11.3
	l := slices.Repeat([]uint64{1 << 43, 0, 1 << 44, 1 << 43}, most/4)
	l[most-1]--
	checkBuild(t, l)
	checkPlaces(t, l)
	checkGrow(t, l[:most-1], l[most-1])
	checkGrow(t, l[:most-1], 1<<43)
	checkGrow(t, l, 0)
	checkGrow(t, l, 1)
	checkGrow(t, l, math.MaxUint64)
	checkGrow(t, l[:most/2], 4)
	checkSet(t, l, 0, 0)
	checkSet(t, l, 0, 1<<43+1)
	checkSet(t, l, most-1, 1<<43)
	checkSet(t, l, most-1, 0)
	checkSet(t, l, most/2-1, 77)
	checkSet(t, l, most, 0)
	f := build(t, l)
	border := uint64(0)
	for i, s := range l {
		if s == 0 {
			continue
		}
		for _, ticket := range []uint64{border, border + s - 1} {
			if got, e := Owner(f, ticket); got != i || e != api.OK {
				t.Fatalf("Owner of %d is %d, %d, want %d", ticket, got, e, i)
			}
		}
		border += s
	}
	if border != top-1 {
		t.Error("the stakes come to", border)
	}
	if got, e := Owner(f, border); got != 0 || e != api.ErrRange {
		t.Error("Owner of the sum:", got, e)
	}
}

func TestOwnerByHand(t *testing.T) { // P11.1, P11.3
	for _, c := range []struct {
		l      []uint64
		ticket uint64
		owner  int
		want   api.Errno
	}{
		{nil, 0, 0, api.ErrRange},
		{[]uint64{0, 0, 0}, 0, 0, api.ErrRange},
		{[]uint64{1}, 0, 0, api.OK},
		{[]uint64{1}, 1, 0, api.ErrRange},
		{[]uint64{3, 0, 2, 5}, 0, 0, api.OK},
		{[]uint64{3, 0, 2, 5}, 2, 0, api.OK},
		{[]uint64{3, 0, 2, 5}, 3, 2, api.OK},
		{[]uint64{3, 0, 2, 5}, 4, 2, api.OK},
		{[]uint64{3, 0, 2, 5}, 5, 3, api.OK},
		{[]uint64{3, 0, 2, 5}, 9, 3, api.OK},
		{[]uint64{3, 0, 2, 5}, 10, 0, api.ErrRange},
		{[]uint64{3, 0, 2, 5}, math.MaxUint64, 0, api.ErrRange},
		{[]uint64{0, 0, 0, 2}, 0, 3, api.OK},
		{[]uint64{0, 0, 0, 0, 0, 2, 0, 0}, 0, 5, api.OK},
		{[]uint64{0, 0, 0, 0, 0, 2, 0, 0}, 1, 5, api.OK},
		{[]uint64{0, 0, 0, 0, 0, 2, 0, 0}, 2, 0, api.ErrRange},
		{[]uint64{1, 0, 0, 0, 0, 0, 0, 1, 0}, 1, 7, api.OK},
		{[]uint64{1, top - 2}, 0, 0, api.OK},
		{[]uint64{1, top - 2}, 1, 1, api.OK},
		{[]uint64{1, top - 2}, top - 2, 1, api.OK},
		{[]uint64{1, top - 2}, top - 1, 0, api.ErrRange},
		{[]uint64{top - 1}, top - 2, 0, api.OK},
		{[]uint64{top - 1}, top, 0, api.ErrRange},
	} {
		if got, e := Owner(build(t, c.l), c.ticket); got != c.owner || e != c.want {
			t.Errorf("Owner(%v, %d) = %d, %d, want %d, %d", c.l, c.ticket, got, e, c.owner, c.want)
		}
	}
}

func TestOwnerBesideNoStake(t *testing.T) { // P11.1, P11.3
	for _, ahead := range []int{0, 1, 2, 3, 7, 8, 15, 16, 17} {
		for _, among := range []int{0, 1, 2, 3, 4, 7, 8, 9, 16} {
			for _, behind := range []int{0, 1, 2, 7, 8, 31} {
				l := slices.Concat(make([]uint64, ahead), []uint64{2}, make([]uint64, among), []uint64{3}, make([]uint64, behind))
				checkBorders(t, l)
				checkCounts(t, build(t, l), l)
			}
		}
	}
}

func TestNoStakesAtAll(t *testing.T) { // P11.1
	for _, f := range []api.Fen{{}, {Tree: []uint64{}}, build(t, nil)} {
		if Len(f) != 0 || Total(f) != 0 || len(Stakes(f)) != 0 {
			t.Error("there are some:", Len(f), Total(f), Stakes(f))
		}
		if got, e := Prefix(f, 0); got != 0 || e != api.OK {
			t.Error("Prefix:", got, e)
		}
		if got, e := Owner(f, 0); got != 0 || e != api.ErrRange {
			t.Error("Owner:", got, e)
		}
		if got, e := Grow(f, 6); e != api.OK || !slices.Equal(got.Tree, []uint64{6}) {
			t.Error("Grow:", got, e)
		}
	}
	checkPlaces(t, nil)
	checkBorders(t, nil)
}

func TestSetsAndGrowths(t *testing.T) { // P11.2, P11.3
	for seed := range 40 {
		m := mixed(seed)
		l := row(seed, 12)
		f := build(t, l)
		for range 120 {
			s := m.next() % 7 * (m.next() % 3)
			var e api.Errno
			if len(l) == 0 || m.next()%4 == 0 {
				l = append(l, s)
				f, e = Grow(f, s)
			} else {
				i := int(m.next() % uint64(len(l)))
				l[i] = s
				f, e = Set(f, i, s)
			}
			checkTree(t, "a change", f, e, l)
			if !Same(f, build(t, l)) || !slices.Equal(Stakes(f), l) {
				t.Fatal("not the tree of its stakes:", l, f)
			}
		}
		checkCounts(t, f, l)
	}
}

func TestRefusedLeavesAll(t *testing.T) { // P11.1, P11.2
	l := []uint64{1 << 62, 0, 1 << 61, 1<<61 - 1, 0}
	f := build(t, l)
	for i := range l {
		Set(f, i, math.MaxUint64)
		Set(f, i, l[i]+1)
	}
	Set(f, -1, 0)
	Set(f, len(l), 0)
	Grow(f, 1)
	if !Same(f, build(t, l)) || !slices.Equal(Stakes(f), l) {
		t.Error("what was refused changed the tree:", f)
	}
}

func TestGrowTwice(t *testing.T) { // P11.1, P11.2
	for n := range 70 {
		l := row(n, 20)
		f := build(t, l)
		one, e := Grow(f, 1)
		two, g := Grow(f, 2)
		checkTree(t, "the first one grown", one, e, slices.Concat(l, []uint64{1}))
		checkTree(t, "the second one grown", two, g, slices.Concat(l, []uint64{2}))
		checkTree(t, "that of both", f, api.OK, l)
	}
}

func TestSame(t *testing.T) { // P11.1
	for _, c := range []struct {
		a, b []uint64
		want bool
	}{
		{nil, nil, true},
		{nil, []uint64{}, true},
		{nil, []uint64{0}, false},
		{[]uint64{0}, nil, false},
		{[]uint64{0}, []uint64{0}, true},
		{[]uint64{0}, []uint64{0, 0}, false},
		{[]uint64{3, 3, 2, 10}, []uint64{3, 3, 2, 10}, true},
		{[]uint64{3, 3, 2, 10}, []uint64{3, 3, 2}, false},
		{[]uint64{3, 3, 2}, []uint64{3, 3, 2, 10}, false},
		{[]uint64{3, 3, 2, 10}, []uint64{4, 3, 2, 10}, false},
		{[]uint64{3, 3, 2, 10}, []uint64{3, 3, 1, 10}, false},
		{[]uint64{3, 3, 2, 10}, []uint64{3, 3, 2, 11}, false},
		{[]uint64{3, 3, 2, 10}, []uint64{10, 2, 3, 3}, false},
		// No trees of stakes: they are held against each other all the same.
		{[]uint64{9, 1, math.MaxUint64}, []uint64{9, 1, math.MaxUint64}, true},
		{[]uint64{9, 1, math.MaxUint64}, []uint64{9, 1, math.MaxUint64 >> 1}, false},
		{make([]uint64, most+1), make([]uint64, most+1), true},
		{make([]uint64, most+1), make([]uint64, most), false},
	} {
		a, b := guard(c.a), guard(c.b)
		if got := Same(a.fen(), b.fen()); got != c.want {
			t.Errorf("Same(%v, %v) = %t, want %t", short(c.a), short(c.b), got, c.want)
		}
		a.check(t, "Same")
		b.check(t, "Same")
	}
}

func TestAskedAgain(t *testing.T) { // P11.1
	l := row(37, 50)
	f := build(t, l)
	for range 3 {
		checkPlaces(t, l)
		first, _ := Set(f, 20, 9)
		second, _ := Set(f, 20, 9)
		if !Same(first, second) || !Same(f, build(t, l)) {
			t.Error("another answer of the same call")
		}
	}
}
