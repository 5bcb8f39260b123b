package odds

import (
	"encoding/binary"
	"fmt"
	"math"
	"math/big"
	"slices"
	"testing"

	"drawlot/api"
	"drawlot/lead"
	"drawlot/pick"
	"drawlot/uniform"
)

const (
	top  = 1 << 63
	most = 1 << 20
)

// mixed are numbers without a visible order.
type mixed uint64

func (m *mixed) next() uint64 {
	*m = *m*6364136223846793005 + 1442695040888963407
	return uint64(*m) >> 16
}

// row is n stakes below the bound, about a third of them 0.
func row(n int, bound uint64) []uint64 {
	m, l := mixed(uint64(n)*31+bound), make([]uint64, n)
	for i := range l {
		if m.next()%3 != 0 {
			l[i] = m.next() % bound
		}
	}
	return l
}

// everyRow calls do with each row of up to that many stakes below the bound.
func everyRow(length int, bound uint64, do func(l []uint64)) {
	rows := [][]uint64{nil}
	for range length + 1 {
		var longer [][]uint64
		for _, l := range rows {
			do(slices.Clone(l))
			for s := range bound {
				longer = append(longer, slices.Concat(l, []uint64{s}))
			}
		}
		rows = longer
	}
}

// short is the beginning of l.
func short[T any](l []T) []T { return l[:min(len(l), 12)] }

// number is n without an end.
func number(n uint64) *big.Int { return new(big.Int).SetUint64(n) }

// power is b to the m.
func power(b *big.Int, m int) *big.Int {
	return new(big.Int).Exp(b, big.NewInt(int64(m)), nil)
}

// valueOf is the number that the limbs tell.
func valueOf(a api.Nat) *big.Int {
	sum := new(big.Int)
	for i := len(a) - 1; i >= 0; i-- {
		sum.Lsh(sum, 32)
		sum.Add(sum, number(uint64(a[i])))
	}
	return sum
}

// odd is what a bound and attempts come to, by the chapter's words.
type odd struct {
	bits            int
	all, lost, each *big.Int
}

// mayBe tells if the chapter asks for no ErrArg of a bound and attempts.
func mayBe(n uint64, m int) bool {
	return n >= 1 && n <= top-1 && mayLast(m)
}

// mayLast tells the same of attempts alone.
func mayLast(m int) bool { return m >= 1 && m <= 64 }

// oddsOf is the chapter's words, in numbers without an end, of a bound and attempts that may be.
func oddsOf(t *testing.T, n uint64, m int) odd {
	t.Helper()
	k := number(n - 1).BitLen()
	wide := new(big.Int).Lsh(big.NewInt(1), uint(k))
	all, lost := power(wide, m), power(new(big.Int).Sub(wide, number(n)), m)
	each, left := new(big.Int).DivMod(new(big.Int).Sub(all, lost), number(n), new(big.Int))
	if left.Sign() != 0 {
		t.Fatal("the chapter's number isn't whole:", n, m)
	}
	return odd{k * m, all, lost, each}
}

// answer is what a call tells: a number, or an error.
type answer struct {
	value *big.Int
	e     api.Errno
}

func found(value *big.Int) answer { return answer{value, api.OK} }

func refused(e api.Errno) answer { return answer{new(big.Int), e} }

func (a answer) String() string { return fmt.Sprintf("%v, %d", a.value, int(a.e)) }

// is holds what a call told against what it must tell, limb by limb.
func is(t *testing.T, a api.Nat, e api.Errno, want answer, name string, args ...any) {
	t.Helper()
	if e != want.e || valueOf(a).Cmp(want.value) != 0 || len(a) != (want.value.BitLen()+31)/32 {
		t.Errorf("%s%v = %v, %d, want %v", name, args, a, int(e), want)
	}
}

// shareOf is the chapter's words of Share.
func shareOf(t *testing.T, part, n uint64, m int) answer {
	t.Helper()
	if !mayBe(n, m) || part > n {
		return refused(api.ErrArg)
	}
	return found(new(big.Int).Mul(number(part), oddsOf(t, n, m).each))
}

// isShare holds Share against its words, twice.
func isShare(t *testing.T, part, n uint64, m int) {
	t.Helper()
	want := shareOf(t, part, n, m)
	for range 2 {
		a, e := Share(part, n, m)
		is(t, a, e, want, "Share", part, n, m)
	}
}

// parts are parts of n about its ends and within it, and some above it.
func parts(n uint64) []uint64 {
	return []uint64{0, 1, 2, n / 3, n / 2, n - 2, n - 1, n, n + 1, n + 2, n | top, top - 1, top, top + 1, math.MaxUint64}
}

// check holds all calls of a bound against the chapter's words, twice.
func check(t *testing.T, n uint64, m int) {
	t.Helper()
	bits, all, lost, each, e := 0, refused(api.ErrArg), refused(api.ErrArg), refused(api.ErrArg), api.ErrArg
	if mayBe(n, m) {
		o := oddsOf(t, n, m)
		bits, all, lost, each, e = o.bits, found(o.all), found(o.lost), found(o.each), api.OK
	}
	for range 2 {
		if k, got := Bits(n, m); k != bits || got != e {
			t.Errorf("Bits(%d, %d) = %d, %d, want %d, %d", n, m, k, int(got), bits, int(e))
		}
		a, got := All(n, m)
		is(t, a, got, all, "All", n, m)
		a, got = Lost(n, m)
		is(t, a, got, lost, "Lost", n, m)
		a, got = Each(n, m)
		is(t, a, got, each, "Each", n, m)
	}
	for _, part := range parts(n) {
		isShare(t, part, n, m)
	}
}

// edges are attempts from the first to the last, and between.
func edges() []int { return []int{1, 2, 3, 7, 31, 32, 33, 63, 64} }

// wrongAttempts are those below 1 and above 64, some whose lowest bits alone would do.
func wrongAttempts() []int {
	return []int{0, -1, -2, -63, -64, -65, math.MinInt32, math.MinInt, math.MinInt + 1, 65, 66, 128, 129, 256, 257, 1<<16 + 1, 1 << 32, 1<<32 + 1, math.MaxInt - 63, math.MaxInt}
}

func TestBounds(t *testing.T) { // P16.1: powers of two, one on either side of them, and numbers between
	m := mixed(5)
	for k := range 64 {
		power := uint64(1) << k
		for _, n := range []uint64{power - 1, power, power + 1, power | m.next()%power} {
			for _, attempts := range edges() {
				check(t, n, attempts)
			}
		}
	}
}

func TestSmallBounds(t *testing.T) { // P16.1: each bound, each attempts, each part
	for n := range uint64(70) {
		for attempts := -2; attempts <= 67; attempts++ {
			check(t, n, attempts)
		}
		for part := range n + 3 {
			for _, attempts := range edges() {
				isShare(t, part, n, attempts)
			}
		}
	}
}

func TestWrongBounds(t *testing.T) { // P16.1
	for _, n := range []uint64{0, top, top + 1, top + 5, 1<<63 + 1<<62, math.MaxUint64 - 1, math.MaxUint64} {
		for _, attempts := range append(edges(), wrongAttempts()...) {
			check(t, n, attempts)
		}
	}
}

func TestWrongAttempts(t *testing.T) { // P16.1
	for _, n := range []uint64{1, 2, 3, 5, 64, 1 << 32, 1<<62 + 1, top - 1} {
		for _, attempts := range wrongAttempts() {
			check(t, n, attempts)
		}
	}
}

func TestByHand(t *testing.T) { // P16.1
	for _, c := range []struct {
		n               uint64
		m, bits         int
		all, lost, each string
	}{
		{1, 1, 0, "1", "0", "1"},
		{1, 64, 0, "1", "0", "1"},
		{2, 1, 1, "2", "0", "1"},
		{2, 64, 64, "18446744073709551616", "0", "9223372036854775808"},
		{3, 1, 2, "4", "1", "1"},
		{3, 3, 6, "64", "1", "21"},
		{4, 2, 4, "16", "0", "4"},
		{5, 1, 3, "8", "3", "1"},
		{5, 2, 6, "64", "9", "11"},
		{7, 2, 6, "64", "1", "9"},
		{8, 2, 6, "64", "0", "8"},
		{9, 2, 8, "256", "49", "23"},
		{1 << 62, 1, 62, "4611686018427387904", "0", "1"},
		{1 << 62, 2, 124, "21267647932558653966460912964485513216", "0", "4611686018427387904"},
		{1<<62 + 1, 1, 63, "9223372036854775808", "4611686018427387903", "1"},
		{top - 1, 1, 63, "9223372036854775808", "1", "1"},
		{top - 1, 2, 126, "85070591730234615865843651857942052864", "1", "9223372036854775809"},
	} {
		bits, e := Bits(c.n, c.m)
		all, e1 := All(c.n, c.m)
		lost, e2 := Lost(c.n, c.m)
		each, e3 := Each(c.n, c.m)
		if e != api.OK || e1 != api.OK || e2 != api.OK || e3 != api.OK {
			t.Error("of", c.n, c.m, "an error:", int(e), int(e1), int(e2), int(e3))
		}
		if bits != c.bits || valueOf(all).String() != c.all || valueOf(lost).String() != c.lost || valueOf(each).String() != c.each {
			t.Errorf("of %d, %d: %d, %v, %v, %v", c.n, c.m, bits, all, lost, each)
		}
	}
}

func TestGreatest(t *testing.T) { // P16.1: the most bits that a tape may have
	all, e := All(top-1, 64)
	if e != api.OK || len(all) != 127 || all[126] != 1 || slices.ContainsFunc(all[:126], func(x uint32) bool { return x != 0 }) {
		t.Error("not 2^4032:", all, int(e))
	}
	if k, e := Bits(top-1, 64); k != 4032 || e != api.OK {
		t.Error("not 4032 bits:", k, int(e))
	}
	lost, e := Lost(top-1, 64)
	is(t, lost, e, found(big.NewInt(1)), "Lost", "2^63 - 1", 64)
	lost, e = Lost(1<<62+1, 64)
	is(t, lost, e, found(power(number(1<<62-1), 64)), "Lost", "2^62 + 1", 64)
	whole, e := Share(top-1, top-1, 64)
	is(t, whole, e, found(new(big.Int).Sub(power(big.NewInt(2), 4032), big.NewInt(1))), "Share", "2^63 - 1", "2^63 - 1", 64)
}

// sumOf is the sum of l, by numbers without an end.
func sumOf(l []uint64) *big.Int {
	sum := new(big.Int)
	for _, s := range l {
		sum.Add(sum, number(s))
	}
	return sum
}

// times is the sum as many times as there are stakes.
func times(l []uint64) *big.Int {
	return new(big.Int).Mul(big.NewInt(int64(len(l))), sumOf(l))
}

// ledBy is the chapter's words of Lead, and, if the bound is so many times the sum as there are stakes, of Pick.
func ledBy(t *testing.T, i, m int, l []uint64, table bool) answer {
	t.Helper()
	sum := sumOf(l)
	switch {
	case !mayLast(m):
		return refused(api.ErrArg)
	case sum.BitLen() > 63:
		return refused(api.ErrBig)
	case sum.Sign() == 0:
		return refused(api.ErrZero)
	case table && times(l).BitLen() > 63:
		return refused(api.ErrBig)
	case i < 0 || i > len(l)-1:
		return refused(api.ErrRange)
	case table:
		n := uint64(len(l))
		return shareOf(t, n*l[i], n*sum.Uint64(), m)
	}
	return shareOf(t, l[i], sum.Uint64(), m)
}

// guarded are stakes with other ones ahead of and in the spare room behind what is handed in.
type guarded struct{ all, was []uint64 }

func guard(l []uint64) guarded {
	fence := slices.Repeat([]uint64{91}, 40)
	all := slices.Concat(fence, l, fence)
	return guarded{all, slices.Clone(all)}
}

func (g guarded) inner() []uint64 { return g.all[40 : len(g.all)-40] }

func (g guarded) check(t *testing.T, name string) {
	t.Helper()
	if !slices.Equal(g.all, g.was) {
		t.Errorf("%s changed what was handed in", name)
	}
}

// isPlace holds Lead and Pick of a place against their words, twice, with guarded stakes.
func isPlace(t *testing.T, i, m int, l []uint64) {
	t.Helper()
	g := guard(l)
	for range 2 {
		a, e := Lead(i, m, g.inner()...)
		is(t, a, e, ledBy(t, i, m, l, false), "Lead", i, m, len(l), short(l))
		a, e = Pick(i, m, g.inner()...)
		is(t, a, e, ledBy(t, i, m, l, true), "Pick", i, m, len(l), short(l))
	}
	g.check(t, "Lead or Pick")
}

// places are some of n, and some that aren't there, of which the lowest bits alone would do.
func places(n int) []int {
	l := []int{-1, 0, n - 1, n, n + 1, n / 2, -2, -n, -n - 1, math.MinInt, math.MinInt32, math.MaxInt, 1 << 32, 1<<32 + n - 1}
	for i := range min(n, 9) {
		l = append(l, i)
	}
	return l
}

// checkStakes holds Lead and Pick against their words at the places that the chapter names.
func checkStakes(t *testing.T, m int, l []uint64) {
	t.Helper()
	for _, i := range places(len(l)) {
		isPlace(t, i, m, l)
	}
}

// rightStakes are stakes that have a sum, and that have it as many times as there are of them.
func rightStakes() [][]uint64 {
	return [][]uint64{
		{1}, {2}, {5}, {0, 1}, {1, 0}, {1, 1}, {3, 1}, {1, 3}, {2, 2, 2}, {4, 0, 3}, {3, 0, 2}, {0, 2, 0, 1}, {0, 0, 1, 0, 0}, {0, 0, 0, 0, 0, 0, 0, 0, 5},
		{top - 1}, {1 << 62}, {1<<62 + 1}, {1 << 32, 1}, {1 << 32, 0, 1 << 31}, {1 << 61, 1<<61 - 1}, {1<<62 - 1, 0}, {0, 1<<62 - 1}, {1, 1<<62 - 2},
		{0, 1 << 60, 0, 1<<60 - 1}, {1 << 60, 0, 1 << 60}, {0, 0, 0, (top - 1) / 7, 0, 0, 0}, {1, 2, 3, 4, 5, 6, (top-1)/7 - 21},
		slices.Repeat([]uint64{1}, 17), slices.Repeat([]uint64{0, 5, 5}, 9), row(40, 1000), row(100, 1<<49), row(256, 3),
	}
}

// tooWide are stakes that have a sum, but not as many times as there are of them; of some the lowest 64 bits alone would do, or are 0.
func tooWide() [][]uint64 {
	return [][]uint64{
		{1 << 62, 0}, {0, 1 << 62}, {1<<62 - 1, 1}, {1 << 61, 1 << 61}, {top - 1, 0}, {1, top - 2}, {1 << 62, 1<<62 - 1},
		{(top-1)/3 + 1, 0, 0}, {1 << 61, 0, 0, 0}, {1 << 62, 0, 0, 0}, {1 << 62, 1, 0, 0}, {1 << 61, 1<<61 - 1, 1 << 61, 1 << 61},
		{(top-1)/7 + 1, 0, 0, 0, 0, 0, 0}, {top - 1, 0, 0, 0, 0, 0, 0, 0}, append([]uint64{1 << 60, 7}, make([]uint64, 14)...),
	}
}

// tooMuch are stakes whose sum is 2^63 or more; of some the lowest 64 bits alone would do, or are 0.
func tooMuch() [][]uint64 {
	return [][]uint64{
		{top}, {top + 1}, {math.MaxUint64}, {top - 1, 1}, {1, top - 1}, {1, 0, 0, top - 1, 0}, {1 << 62, 1 << 62}, {1 << 62, 1<<62 - 1, 0, 1},
		{top, top}, {top, 0, top, 5}, {math.MaxUint64, 1}, {1, math.MaxUint64}, {0, math.MaxUint64, 1, 0}, {math.MaxUint64, 2, 7}, {math.MaxUint64, math.MaxUint64, 2},
		{top - 1, top - 1, 2, 7}, {1 << 62, 1 << 62, 1 << 62, 1 << 62}, {1 << 62, 1 << 62, 1 << 62, 1 << 62, 3},
	}
}

// noStakes are stakes of which each is 0, or none at all.
func noStakes() [][]uint64 {
	return [][]uint64{nil, {}, {0}, {0, 0}, {0, 0, 0}, make([]uint64, 8), make([]uint64, 1000)}
}

func TestStakes(t *testing.T) { // P16.1
	for _, l := range slices.Concat(rightStakes(), tooWide(), tooMuch(), noStakes()) {
		for _, m := range append(edges(), wrongAttempts()...) {
			checkStakes(t, m, l)
		}
	}
}

func TestSmallStakes(t *testing.T) { // P16.1: each row of small stakes
	for _, m := range []int{0, 1, 2, 5, 64, 65} {
		everyRow(4, 3, func(l []uint64) { checkStakes(t, m, l) })
		everyRow(2, 9, func(l []uint64) { checkStakes(t, m, l) })
	}
}

func TestManyStakes(t *testing.T) { // P16.1: up to the limits, and one more, of which the chapter says nothing
	for _, n := range []int{most - 1, most, most + 1} {
		l := slices.Repeat([]uint64{1}, n)
		for _, i := range []int{-1, 0, n - 1, n} {
			isPlace(t, i, 2, l)
		}
	}
	l := make([]uint64, most)
	// The greatest sum that stands below 2^63 so many times, and one more.
	for _, sum := range []uint64{1<<43 - 1, 1 << 43} {
		l[7] = sum
		for _, i := range []int{-1, 0, 7, most} {
			isPlace(t, i, 3, l)
		}
	}
}

func TestExample(t *testing.T) { // P16.1
	all, e := All(5, 2)
	is(t, all, e, found(big.NewInt(64)), "All", 5, 2)
	lost, e := Lost(5, 2)
	is(t, lost, e, found(big.NewInt(9)), "Lost", 5, 2)
	for i, want := range []int64{33, 0, 22} {
		a, e := Lead(i, 2, 3, 0, 2)
		is(t, a, e, found(big.NewInt(want)), "Lead", i, 2, "3 0 2")
	}
}

func TestLeadAndPickByHand(t *testing.T) { // P16.1
	for _, c := range []struct {
		l          []uint64
		m          int
		lead, pick []int64
	}{
		{[]uint64{3, 0, 2}, 2, []int64{33, 0, 22}, []int64{153, 0, 102}},
		{[]uint64{4, 0, 3}, 2, []int64{36, 0, 27}, []int64{516, 0, 387}},
		{[]uint64{3, 1}, 1, []int64{3, 1}, []int64{6, 2}},
		{[]uint64{0, 2, 0, 1}, 2, []int64{0, 10, 0, 5}, []int64{0, 160, 0, 80}},
		{[]uint64{1}, 64, []int64{1}, []int64{1}},
		{[]uint64{0, 1}, 2, []int64{0, 1}, []int64{0, 4}},
		{[]uint64{5}, 2, []int64{55}, []int64{55}},
	} {
		for i := range c.l {
			a, e := Lead(i, c.m, c.l...)
			is(t, a, e, found(big.NewInt(c.lead[i])), "Lead", i, c.m, c.l)
			a, e = Pick(i, c.m, c.l...)
			is(t, a, e, found(big.NewInt(c.pick[i])), "Pick", i, c.m, c.l)
		}
	}
}

func TestWhichReason(t *testing.T) { // P16.1: the first one by the chapter's order, where more than one is there
	for _, c := range []struct {
		i, m       int
		l          []uint64
		lead, pick api.Errno
	}{
		{0, 0, []uint64{1 << 63}, api.ErrArg, api.ErrArg},
		{9, 65, nil, api.ErrArg, api.ErrArg},
		{-1, -1, []uint64{0}, api.ErrArg, api.ErrArg},
		{0, 65, []uint64{1 << 62, 1}, api.ErrArg, api.ErrArg},
		{2, 0, []uint64{1, 1}, api.ErrArg, api.ErrArg},
		{5, 1, []uint64{1 << 63}, api.ErrBig, api.ErrBig},
		{-1, 1, []uint64{math.MaxUint64, 1}, api.ErrBig, api.ErrBig},
		{-1, 64, []uint64{1 << 62, 1 << 62, 1 << 62, 1 << 62}, api.ErrBig, api.ErrBig},
		{0, 1, nil, api.ErrZero, api.ErrZero},
		{-1, 1, nil, api.ErrZero, api.ErrZero},
		{5, 1, []uint64{0, 0}, api.ErrZero, api.ErrZero},
		{0, 1, []uint64{0, 0}, api.ErrZero, api.ErrZero},
		{0, 1, []uint64{1 << 62, 1}, api.OK, api.ErrBig},
		{2, 1, []uint64{1 << 62, 1}, api.ErrRange, api.ErrBig},
		{-1, 64, []uint64{1 << 62, 0, 0, 0}, api.ErrRange, api.ErrBig},
		{1, 1, []uint64{1}, api.ErrRange, api.ErrRange},
		{-1, 64, []uint64{1, 2}, api.ErrRange, api.ErrRange},
		{1, 64, []uint64{1, 2}, api.OK, api.OK},
	} {
		a, e := Lead(c.i, c.m, c.l...)
		b, f := Pick(c.i, c.m, c.l...)
		if e != c.lead || f != c.pick || e != api.OK && len(a) != 0 || f != api.OK && len(b) != 0 {
			t.Errorf("of %d, %d, %v: %v, %d and %v, %d, want %d and %d", c.i, c.m, c.l, a, int(e), b, int(f), int(c.lead), int(c.pick))
		}
	}
}

// asked are all calls that answer a number, of arguments by which each answers one.
func asked() map[string]func() (api.Nat, api.Errno) {
	return map[string]func() (api.Nat, api.Errno){
		"All":   func() (api.Nat, api.Errno) { return All(2, 1) },
		"Lost":  func() (api.Nat, api.Errno) { return Lost(5, 1) },
		"Each":  func() (api.Nat, api.Errno) { return Each(5, 1) },
		"Share": func() (api.Nat, api.Errno) { return Share(1, 5, 1) },
		"Lead":  func() (api.Nat, api.Errno) { return Lead(1, 1, 2, 3) },
		"Pick":  func() (api.Nat, api.Errno) { return Pick(1, 1, 2, 3) },
	}
}

func TestAnswersAreTheCallers(t *testing.T) { // P16.1: who writes into an answer changes no other one
	for name, ask := range asked() {
		a, e := ask()
		if e != api.OK || len(a) == 0 {
			t.Fatal(name, a, int(e))
		}
		was := valueOf(a)
		a = a[:cap(a)]
		for i := range a {
			a[i] = 77
		}
		b, e := ask()
		is(t, b, e, found(was), name)
	}
}

func TestNothingIsKept(t *testing.T) { // P16.1: what was handed in and is written into later on counts as it is then
	l := []uint64{3, 0, 2}
	isPlace(t, 0, 2, l)
	a, _ := Lead(0, 2, l...)
	was := valueOf(a)
	copy(l, []uint64{2, 1, 9})
	isPlace(t, 0, 2, l)
	if valueOf(a).Cmp(was) != 0 {
		t.Error("an answer changed with the stakes:", a)
	}
}

// value is what a call must have told.
func value(t *testing.T, a api.Nat, e api.Errno) *big.Int {
	t.Helper()
	if e != api.OK {
		t.Fatal("an error:", int(e))
	}
	return valueOf(a)
}

// together holds the shares of all places, of the bound of which nobody leads, against one another and against all tapes.
func together(t *testing.T, name string, share func(i int) (api.Nat, api.Errno), bound uint64, m int, l []uint64) {
	t.Helper()
	lost, e := Lost(bound, m)
	sum := value(t, lost, e)
	shares := make([]*big.Int, len(l))
	for i := range l {
		a, e := share(i)
		shares[i] = value(t, a, e)
		sum.Add(sum, shares[i])
	}
	all, e := All(bound, m)
	if sum.Cmp(value(t, all, e)) != 0 {
		t.Errorf("%s of %v.., by %d attempts: all places' tapes and the lost ones are %v, all tapes %v", name, short(l), m, sum, valueOf(all))
	}
	for i, a := range shares {
		for j, b := range shares[:min(len(l), 20)] {
			if new(big.Int).Mul(a, number(l[j])).Cmp(new(big.Int).Mul(b, number(l[i]))) != 0 {
				t.Errorf("%s of %v.., by %d attempts: the places %d and %d have %v and %v", name, short(l), m, i, j, a, b)
			}
		}
		if (a.Sign() == 0) != (l[i] == 0) {
			t.Errorf("%s of %v.., by %d attempts: the place %d has %v", name, short(l), m, i, a)
		}
	}
}

// leadTogether and pickTogether are together, by Lead and by Pick.
func leadTogether(t *testing.T, m int, l []uint64) {
	t.Helper()
	together(t, "Lead", func(i int) (api.Nat, api.Errno) { return Lead(i, m, l...) }, sumOf(l).Uint64(), m, l)
}

func pickTogether(t *testing.T, m int, l []uint64) {
	t.Helper()
	together(t, "Pick", func(i int) (api.Nat, api.Errno) { return Pick(i, m, l...) }, times(l).Uint64(), m, l)
}

func TestTogether(t *testing.T) { // P16.2
	for _, m := range edges() {
		for _, l := range rightStakes() {
			leadTogether(t, m, l)
			pickTogether(t, m, l)
		}
		for _, l := range tooWide() {
			leadTogether(t, m, l)
		}
	}
}

func TestSmallTogether(t *testing.T) { // P16.2: each row of small stakes
	for _, m := range []int{1, 2, 3, 64} {
		everyRow(4, 4, func(l []uint64) {
			if sumOf(l).Sign() != 0 {
				leadTogether(t, m, l)
				pickTogether(t, m, l)
			}
		})
	}
}

func TestNumbersTogether(t *testing.T) { // P16.2: each number's tapes, so many times, and the lost ones are all tapes
	m := mixed(9)
	for k := range 63 {
		n := uint64(1)<<k | m.next()%(1<<k)
		for _, attempts := range edges() {
			whole, e := Share(n, n, attempts)
			sum := value(t, whole, e)
			lost, e := Lost(n, attempts)
			sum.Add(sum, value(t, lost, e))
			all, e := All(n, attempts)
			if sum.Cmp(value(t, all, e)) != 0 {
				t.Errorf("of %d, by %d attempts: %v, all tapes %v", n, attempts, sum, valueOf(all))
			}
			part := m.next() % (n + 1)
			some, e := Share(part, n, attempts)
			others, e2 := Share(n-part, n, attempts)
			if new(big.Int).Add(value(t, some, e), value(t, others, e2)).Cmp(valueOf(whole)) != 0 {
				t.Errorf("of %d, by %d attempts: %d of them, and the others", n, attempts, part)
			}
		}
	}
}

// counted is how many of all tapes of so many bits (at most 16) draw each number below n, how many draw nothing, and how many there are.
func counted(t *testing.T, bits, n int, draw func(s api.Source) (int, api.Errno)) (drawn []int64, nothing, tapes int64) {
	t.Helper()
	drawn = make([]int64, n)
	var b [2]byte
	for v := range 1 << bits {
		binary.BigEndian.PutUint16(b[:], uint16(v<<(16-bits)))
		tapes++
		i, e := draw(api.Source{Kind: api.SrcTape, Tape: b[:], Bits: uint64(bits)})
		switch {
		case e == api.OK && i >= 0 && i < n:
			drawn[i]++
		case e == api.ErrDraws:
			nothing++
		default:
			t.Fatalf("the tape %b: %d, %d", v, i, int(e))
		}
	}
	return drawn, nothing, tapes
}

// byHand draws a number below n from a tape of k bits an attempt (their number at most 16), digit by digit.
func byHand(s api.Source, n, k int) (int, api.Errno) {
	v, read := int(binary.BigEndian.Uint16(s.Tape)), 0
	for read == 0 || read < int(s.Bits) {
		x := 0
		for range k {
			x = 2*x + v>>(15-read)&1
			read++
		}
		// Without bits each attempt is like the first one.
		if x < n {
			return x, api.OK
		}
	}
	return 0, api.ErrDraws
}

// isCount holds a count against what was told.
func isCount(t *testing.T, a api.Nat, e api.Errno, count int64, name string, args ...any) {
	t.Helper()
	is(t, a, e, found(big.NewInt(count)), name, args...)
}

// isCounted holds All and Lost of a bound against counts over all tapes.
func isCounted(t *testing.T, n uint64, m int, nothing, tapes int64) {
	t.Helper()
	a, e := Lost(n, m)
	isCount(t, a, e, nothing, "Lost", n, m)
	a, e = All(n, m)
	isCount(t, a, e, tapes, "All", n, m)
}

func TestCountedNumbers(t *testing.T) { // P16.1, P16.2: one by one, by hand and by layer 8
	for n := 1; n <= 130; n++ {
		k := number(uint64(n) - 1).BitLen()
		for m := 1; m <= 64 && k*m <= 10; m++ {
			bits, e := Bits(uint64(n), m)
			if bits != k*m || e != api.OK {
				t.Fatal("not so many bits:", n, m, bits, int(e))
			}
			for _, draw := range []func(s api.Source) (int, api.Errno){
				func(s api.Source) (int, api.Errno) { return byHand(s, n, k) },
				func(s api.Source) (int, api.Errno) {
					x, _, e := uniform.Draw(s, uint64(n), m)
					return int(x), e
				},
			} {
				drawn, nothing, tapes := counted(t, bits, n, draw)
				isCounted(t, uint64(n), m, nothing, tapes)
				var some int64
				for x, count := range drawn {
					a, e := Each(uint64(n), m)
					isCount(t, a, e, count, "Each", n, m)
					a, e = Share(uint64(x), uint64(n), m)
					isCount(t, a, e, some, "Share", x, n, m)
					some += count
				}
				a, e := Share(uint64(n), uint64(n), m)
				isCount(t, a, e, some, "Share", n, n, m)
			}
		}
	}
}

// isCountedPlaces holds one of Lead and Pick, of a bound, against the counts over all tapes by which each place leads.
func isCountedPlaces(t *testing.T, name string, bound uint64, m int, l []uint64, told func(i, m int, l ...uint64) (api.Nat, api.Errno), draw func(s api.Source, m int, l ...uint64) (int, api.Source, api.Errno)) {
	t.Helper()
	bits, e := Bits(bound, m)
	if e != api.OK || bits > 12 {
		return
	}
	led, nobody, tapes := counted(t, bits, len(l), func(s api.Source) (int, api.Errno) {
		i, _, e := draw(s, m, l...)
		return i, e
	})
	isCounted(t, bound, m, nobody, tapes)
	for i, count := range led {
		a, e := told(i, m, l...)
		isCount(t, a, e, count, name, i, m, l)
	}
}

func TestCountedPlaces(t *testing.T) { // P16.1, P16.2: one by one, by layers 13 and 15
	count := func(l []uint64) {
		for _, m := range []int{1, 2, 3, 4, 12, 64} {
			isCountedPlaces(t, "Lead", sumOf(l).Uint64(), m, l, Lead, lead.List)
			isCountedPlaces(t, "Pick", times(l).Uint64(), m, l, Pick, pick.List)
		}
	}
	everyRow(3, 4, count)
	everyRow(5, 2, count)
	for n := range 9 {
		count(row(n+1, 7))
	}
	count([]uint64{0, 255, 0, 1})
	count([]uint64{200, 0, 100})
	count([]uint64{1000, 24})
	count([]uint64{2049})
}
