package safe

import (
	"math"
	"math/big"
	"slices"
	"testing"
)

const top = 1 << 63

// numbers are those about every power of two, about the roots of 2^63 and of 2^64, and mixed ones.
func numbers() []uint64 {
	l := []uint64{0, 1, 2, 3, 7, 10, 1000, 3037000499, 3037000500, math.MaxUint64 - 1, math.MaxUint64, 3 << 62, 0x0102030405060708, 0xfedcba9876543210}
	for i := 1; i < 64; i++ {
		l = append(l, 1<<i-1, 1<<i, 1<<i+1)
	}
	x := uint64(1)
	for i := range 60 {
		x = x*6364136223846793005 + 1442695040888963407
		l = append(l, x>>(i%40))
	}
	return l
}

// long is n as a number without an end.
func long(n uint64) *big.Int { return new(big.Int).SetUint64(n) }

// kept is what the chapter answers, if n is what comes of a call's numbers: n and true, or 0 and false.
func kept(n *big.Int) (uint64, bool) {
	if n.Sign() < 0 || n.Cmp(new(big.Int).Lsh(big.NewInt(1), 63)) >= 0 {
		return 0, false
	}
	return n.Uint64(), true
}

// checkPair holds what is answered of a and b against numbers without an end.
func checkPair(t *testing.T, a, b uint64) {
	t.Helper()
	for _, c := range []struct {
		name string
		call func(a, b uint64) (uint64, bool)
		full *big.Int
	}{
		{"Add", Add, new(big.Int).Add(long(a), long(b))},
		{"Sub", Sub, new(big.Int).Sub(long(a), long(b))},
		{"Mul", Mul, new(big.Int).Mul(long(a), long(b))},
	} {
		want, wantOK := kept(c.full)
		if got, ok := c.call(a, b); got != want || ok != wantOK {
			t.Errorf("%s(%d, %d) = %d, %t, want %d, %t", c.name, a, b, got, ok, want, wantOK)
		}
	}
}

// checkTotal holds the total of l against numbers without an end, and l against what it was, its spare room too.
func checkTotal(t *testing.T, l []uint64) {
	t.Helper()
	full := new(big.Int)
	for _, n := range l {
		full.Add(full, long(n))
	}
	want, wantOK := kept(full)
	all := slices.Concat([]uint64{5, 6}, l, []uint64{7, 8})
	was := slices.Clone(all)
	if got, ok := Total(all[2 : 2+len(l)]...); got != want || ok != wantOK {
		t.Errorf("Total(%s) = %d, %t, want %d, %t", short(l), got, ok, want, wantOK)
	}
	if !slices.Equal(all, was) {
		t.Errorf("Total(%s) changed what was handed in", short(l))
	}
}

// short is the numbers of l as text, of a long one how many they are.
func short(l []uint64) string {
	text := ""
	for i, n := range l {
		if i == 8 {
			return text + " .. of " + big.NewInt(int64(len(l))).String()
		}
		text += " " + long(n).String()
	}
	return text
}

// byHand is a call's numbers, and what comes of them.
type byHand struct {
	a, b, want uint64
	ok         bool
}

func checkByHand(t *testing.T, call func(a, b uint64) (uint64, bool), l []byHand) {
	t.Helper()
	for _, c := range l {
		if got, ok := call(c.a, c.b); got != c.want || ok != c.ok {
			t.Errorf("of %d and %d: %d, %t, want %d, %t", c.a, c.b, got, ok, c.want, c.ok)
		}
	}
}

func TestAddByHand(t *testing.T) { // P9.1
	checkByHand(t, Add, []byHand{
		{0, 0, 0, true}, {7, 5, 12, true}, {0, 9, 9, true}, {9, 0, 9, true},
		{1 << 62, 1 << 62, 0, false}, {1 << 62, 1<<62 - 1, top - 1, true}, {1<<62 - 1, 1 << 62, top - 1, true}, {1 << 62, 1<<62 + 1, 0, false},
		{top - 1, 0, top - 1, true}, {0, top - 1, top - 1, true}, {top - 1, 1, 0, false}, {1, top - 1, 0, false}, {top - 1, top - 1, 0, false},
		{top, 0, 0, false}, {0, top, 0, false}, {top, 1, 0, false}, {math.MaxUint64, 0, 0, false},
		// Sums of 2^64 and more: their lowest 64 bits alone would do.
		{top, top, 0, false}, {math.MaxUint64, 1, 0, false}, {1, math.MaxUint64, 0, false}, {math.MaxUint64, top, 0, false}, {top + 3, top + 4, 0, false}, {math.MaxUint64, math.MaxUint64, 0, false},
	})
}

func TestSubByHand(t *testing.T) { // P9.1
	checkByHand(t, Sub, []byHand{
		{0, 0, 0, true}, {7, 5, 2, true}, {7, 7, 0, true}, {7, 8, 0, false}, {5, 7, 0, false}, {0, 1, 0, false},
		{top - 1, 0, top - 1, true}, {top - 1, top - 1, 0, true}, {top - 1, top, 0, false},
		{top, 0, 0, false}, {top, 1, top - 1, true}, {top, top, 0, true}, {top, top + 1, 0, false}, {top + 1, 1, 0, false}, {top + 1, 2, top - 1, true},
		{math.MaxUint64, 0, 0, false}, {math.MaxUint64, top - 1, 0, false}, {math.MaxUint64, top, top - 1, true}, {math.MaxUint64, math.MaxUint64, 0, true}, {math.MaxUint64 - 1, math.MaxUint64, 0, false},
		// What wraps round to a number below 2^63 is b above a all the same.
		{0, math.MaxUint64, 0, false}, {0, top, 0, false}, {1, top + 2, 0, false}, {3, math.MaxUint64, 0, false},
	})
}

func TestMulByHand(t *testing.T) { // P9.1
	checkByHand(t, Mul, []byHand{
		{0, 0, 0, true}, {7, 5, 35, true}, {1, 1, 1, true},
		{0, top - 1, 0, true}, {top, 0, 0, true}, {0, math.MaxUint64, 0, true}, {math.MaxUint64, 0, 0, true},
		{1, top - 1, top - 1, true}, {top - 1, 1, top - 1, true}, {1, top, 0, false}, {top, 1, 0, false}, {math.MaxUint64, 1, 0, false}, {1, math.MaxUint64, 0, false},
		{2, 1<<62 - 1, top - 2, true}, {2, 1 << 62, 0, false}, {1 << 31, 1 << 31, 1 << 62, true}, {1 << 32, 1 << 31, 0, false}, {1<<32 - 1, 1 << 31, top - 1<<31, true},
		// 2^63 - 1 is 7^2 times 188232082384791343; 3037000499 is the greatest number whose square is below 2^63.
		{49, 188232082384791343, top - 1, true}, {188232082384791343, 49, top - 1, true}, {3037000499, 3037000499, 9223372030926249001, true}, {3037000500, 3037000500, 0, false}, {3037000500, 3037000499, 9223372033963249500, true},
		// Products of 2^64 and more: their lowest 64 bits alone would do.
		{1 << 32, 1 << 32, 0, false}, {top, 2, 0, false}, {1<<32 + 1, 1 << 32, 0, false}, {math.MaxUint64, math.MaxUint64, 0, false}, {1 << 62, 4, 0, false}, {top, top, 0, false},
	})
}

func TestPairs(t *testing.T) { // P9.1
	l := numbers()
	for _, a := range l {
		for _, b := range l {
			checkPair(t, a, b)
		}
	}
}

func TestSmallPairs(t *testing.T) { // P9.1
	for a := range uint64(200) {
		for b := range uint64(200) {
			checkPair(t, a, b)
		}
	}
}

func TestPairsAboutTheBound(t *testing.T) { // P9.1: each number with those that bring it just below 2^63 and 2^64, there, and above
	for _, a := range numbers() {
		for d := range uint64(7) {
			for _, b := range []uint64{a, a - top, top - a, -a} {
				checkPair(t, a, b+d-3)
				checkPair(t, b+d-3, a)
			}
			if a != 0 {
				for _, b := range []uint64{top / a, (top - 1) / a, math.MaxUint64 / a} {
					checkPair(t, a, b+d-3)
					checkPair(t, b+d-3, a)
				}
			}
		}
	}
}

func TestFits(t *testing.T) { // P9.1
	for n, want := range map[uint64]bool{0: true, 1: true, top / 2: true, top - 2: true, top - 1: true, top: false, top + 1: false, math.MaxUint64 - 1: false, math.MaxUint64: false} {
		if got := Fits(n); got != want {
			t.Errorf("Fits(%d) = %t", n, got)
		}
	}
	for _, n := range numbers() {
		if _, want := kept(long(n)); Fits(n) != want {
			t.Errorf("Fits(%d) = %t", n, !want)
		}
	}
}

func TestTotalByHand(t *testing.T) { // P9.1
	for _, c := range []struct {
		l    []uint64
		want uint64
		ok   bool
	}{
		{nil, 0, true}, {[]uint64{}, 0, true}, {[]uint64{0}, 0, true}, {[]uint64{9}, 9, true}, {[]uint64{1, 2, 3}, 6, true}, {[]uint64{0, 0, 0, 0}, 0, true},
		{[]uint64{top - 1}, top - 1, true}, {[]uint64{top}, 0, false}, {[]uint64{math.MaxUint64}, 0, false},
		{[]uint64{top - 1, 0, 0}, top - 1, true}, {[]uint64{top - 2, 0, 1}, top - 1, true}, {[]uint64{top - 1, 0, 1}, 0, false}, {[]uint64{1, 0, top - 1}, 0, false},
		{[]uint64{1 << 61, 1 << 61, 1 << 61, 1<<61 - 1}, top - 1, true}, {[]uint64{1 << 61, 1 << 61, 1 << 61, 1 << 61}, 0, false},
		// The first numbers alone are too many: what follows brings none of them back.
		{[]uint64{top, 0}, 0, false}, {[]uint64{top - 1, 1, 5}, 0, false}, {[]uint64{math.MaxUint64, 2}, 0, false}, {[]uint64{1 << 62, 1 << 62, 1 << 62, 1 << 62, 3}, 0, false},
		{[]uint64{top, top}, 0, false}, {[]uint64{top, top, 7}, 0, false}, {[]uint64{7, math.MaxUint64, 1}, 0, false}, {[]uint64{math.MaxUint64, math.MaxUint64, 2, 5}, 0, false},
		{[]uint64{top - 1, top - 1, 2}, 0, false}, {[]uint64{top - 1, top - 1, 3, 4}, 0, false},
		// The last one alone is.
		{[]uint64{1, 2, top}, 0, false}, {[]uint64{0, 0, math.MaxUint64}, 0, false},
	} {
		if got, ok := Total(c.l...); got != c.want || ok != c.ok {
			t.Errorf("Total(%s) = %d, %t, want %d, %t", short(c.l), got, ok, c.want, c.ok)
		}
	}
	if got, ok := Total(); got != 0 || !ok {
		t.Errorf("Total() = %d, %t", got, ok)
	}
	if got, ok := Total(4, 5); got != 9 || !ok {
		t.Errorf("Total(4, 5) = %d, %t", got, ok)
	}
}

func TestTotalOfFew(t *testing.T) { // P9.1
	checkTotal(t, nil)
	edges := []uint64{0, 1, 2, 1<<62 - 1, 1 << 62, 1<<62 + 1, top - 2, top - 1, top, top + 1, 3 << 62, math.MaxUint64 - 1, math.MaxUint64}
	for _, a := range edges {
		checkTotal(t, []uint64{a})
		for _, b := range edges {
			checkTotal(t, []uint64{a, b})
			for _, c := range edges {
				checkTotal(t, []uint64{a, b, c})
				for _, d := range edges {
					checkTotal(t, []uint64{a, b, c, d})
				}
			}
		}
	}
}

// mixed is so many numbers below 2^(64-shift).
func mixed(count, shift int) []uint64 {
	l := make([]uint64, count)
	x := uint64(count)
	for i := range l {
		x = x*6364136223846793005 + 1442695040888963407
		l[i] = x >> shift
	}
	return l
}

func TestTotalOfMany(t *testing.T) { // P9.1
	for _, count := range []int{1, 2, 3, 5, 17, 64, 257, 1000, 1 << 16} {
		for _, shift := range []int{2, 8, 17, 32, 56} {
			checkTotal(t, mixed(count, shift))
		}
	}
}

func TestTotalOfManyAboutTheBound(t *testing.T) { // P9.1: the number that brings all to 2^63, one less and one more, at each place
	for _, count := range []int{1, 2, 3, 9, 40} {
		l := mixed(count, 8)
		sum := uint64(0)
		for _, n := range l {
			sum += n
		}
		for at := range count + 1 {
			for d := range uint64(3) {
				checkTotal(t, slices.Insert(slices.Clone(l), at, top-sum+d-1))
				checkTotal(t, slices.Insert(slices.Clone(l), at, -sum+d-1))
			}
		}
	}
}

// rows are all lists of that length of these numbers, each handed to each.
func rows(l []uint64, length int, each func(row []uint64)) {
	row := make([]uint64, length)
	var fill func(i int)
	fill = func(i int) {
		if i == length {
			each(row)
			return
		}
		for _, n := range l {
			row[i] = n
			fill(i + 1)
		}
	}
	fill(0)
}

func TestTotalInWhateverOrder(t *testing.T) { // P9.1
	for length := range 7 {
		rows([]uint64{0, 1, 1 << 61, top - 1, math.MaxUint64}, length, func(row []uint64) { checkTotal(t, row) })
	}
}

func TestAddedComesBack(t *testing.T) { // P9.2
	l := numbers()
	for _, a := range l {
		for _, b := range l {
			if !Fits(a) || !Fits(b) {
				continue
			}
			sum, ok := Add(a, b)
			if !ok {
				// Numbers below 2^63 whose sum isn't: neither leaves room for the other one.
				if room, fits := Sub(top-1, a); !fits || b <= room {
					t.Errorf("Add(%d, %d) is refused, though there is room for %d", a, b, room)
				}
				continue
			}
			first, ok1 := Sub(sum, b)
			second, ok2 := Sub(sum, a)
			if first != a || second != b || !ok1 || !ok2 {
				t.Errorf("Add(%d, %d) = %d, which comes back as %d, %t and %d, %t", a, b, sum, first, ok1, second, ok2)
			}
		}
	}
}

func TestAddedComesBackAboutTheBound(t *testing.T) { // P9.2
	for _, a := range numbers() {
		for d := range uint64(3) {
			b := top - 1 - d - a
			if !Fits(a) || !Fits(b) {
				continue
			}
			sum, ok := Add(a, b)
			first, ok1 := Sub(sum, b)
			second, ok2 := Sub(sum, a)
			if sum != top-1-d || first != a || second != b || !ok || !ok1 || !ok2 {
				t.Errorf("Add(%d, %d) = %d, %t, which comes back as %d, %t and %d, %t", a, b, sum, ok, first, ok1, second, ok2)
			}
		}
	}
}

// checkSumOfAsMany holds the product of a and count, either way round, against the total of so many of a.
func checkSumOfAsMany(t *testing.T, a uint64, count int) {
	t.Helper()
	want, wantOK := Total(slices.Repeat([]uint64{a}, count)...)
	got, ok := Mul(a, uint64(count))
	other, ok2 := Mul(uint64(count), a)
	if got != want || ok != wantOK || other != want || ok2 != wantOK {
		t.Errorf("of %d and %d: %d, %t and %d, %t, the sum of as many is %d, %t", a, count, got, ok, other, ok2, want, wantOK)
	}
}

func TestProductAsSum(t *testing.T) { // P9.2
	for count := range 70 {
		for _, a := range numbers() {
			checkSumOfAsMany(t, a, count)
		}
	}
	for _, count := range []int{1000, 1<<10 - 1, 1 << 10, 1<<16 + 1, 1 << 20} {
		for d := range uint64(3) {
			checkSumOfAsMany(t, top/uint64(count)+d-1, count)
		}
		checkSumOfAsMany(t, 1, count)
		checkSumOfAsMany(t, 0, count)
	}
}

func TestProductStepByStep(t *testing.T) { // P9.2: one more of them is a more, however many there are
	for _, a := range numbers() {
		for _, b := range numbers() {
			if b == math.MaxUint64 {
				continue
			}
			some, ok := Mul(a, b)
			more, ok1 := Mul(a, b+1)
			want, wantOK := uint64(0), false
			if ok {
				want, wantOK = Add(some, a)
			}
			if more != want || ok1 != wantOK {
				t.Errorf("Mul(%d, %d) = %d, %t, want %d, %t", a, b+1, more, ok1, want, wantOK)
			}
		}
	}
}
