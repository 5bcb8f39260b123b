package nat

import (
	"fmt"
	"math"
	"math/big"
	"slices"
	"strings"
	"testing"

	"drawlot/api"
)

const most = math.MaxUint32

// long is a as a number without an end; noughts at its end don't count.
func long(a api.Nat) *big.Int {
	var b []byte
	for _, x := range slices.Backward(a) {
		b = append(b, byte(x>>24), byte(x>>16), byte(x>>8), byte(x))
	}
	return new(big.Int).SetBytes(b)
}

// limbs is n, which isn't below 0, as limbs, the lowest one first.
func limbs(n *big.Int) api.Nat {
	b := n.Bytes()
	slices.Reverse(b)
	a := make(api.Nat, (len(b)+3)/4)
	for i, x := range b {
		a[i/4] |= uint32(x) << (i % 4 * 8)
	}
	return a
}

// mayBe tells what Right is to answer.
func mayBe(a api.Nat) bool {
	switch {
	case len(a) == 0:
		return true
	case len(a) > 256:
		return false
	}
	return a[len(a)-1] > 0
}

// same is so many limbs of x.
func same(x uint32, count int) api.Nat { return slices.Repeat(api.Nat{x}, count) }

// above is 2^32 to the count, and low.
func above(low uint32, count int) api.Nat {
	a := append(make(api.Nat, count), 1)
	a[0] += low
	return a
}

// mixed is so many limbs that are unlike.
func mixed(count int) api.Nat {
	a, x := make(api.Nat, count), uint64(count)
	for i := range a {
		x = x*6364136223846793005 + 1442695040888963407
		a[i] = uint32(x>>33) | 1
	}
	return a
}

// holed is so many limbs of which every second one, from the lowest one on, is 0; the last one isn't.
func holed(count int) api.Nat {
	a := mixed(count)
	for i := 0; i < count-1; i += 2 {
		a[i] = 0
	}
	return a
}

// rights are numbers that may be: small ones, those about the powers of 2^32, and mixed ones of many lengths.
func rights() []api.Nat {
	l := []api.Nat{nil, {}, {1}, {2}, {3}, {10}, {1 << 16}, {1 << 31}, {most - 1}, {most}, {0, most}, {most, 1}, {1, 2}, {2, 1}, {0, 1 << 31}, {0, 0, 0, 5}}
	for _, count := range []int{1, 2, 3, 4, 7, 8, 31, 64, 127, 128, 129, 200, 254, 255} {
		l = append(l, above(0, count), above(1, count), same(most, count), mixed(count), holed(count), same(1<<31, count))
	}
	return append(l, same(most, 256), mixed(256), holed(256), same(1, 256), append(same(most, 255), 1), append(make(api.Nat, 255), most))
}

// wrongs are numbers that may not be.
func wrongs() []api.Nat {
	l := []api.Nat{{0}, {0, 0}, {1, 0}, {most, most, 0}, make(api.Nat, 256), append(same(1, 255), 0), make(api.Nat, 257)}
	for _, count := range []int{257, 258, 300, 512, 1000} {
		l = append(l, same(1, count), same(most, count), append(make(api.Nat, count-1), 1), append(same(1, count-1), 0))
	}
	return l
}

// guard keeps numbers that are handed in: other limbs are ahead of each, and behind it, in its spare room.
type guard struct {
	all, was []api.Nat
}

// in is a copy of a that g keeps.
func (g *guard) in(a api.Nat) api.Nat {
	all := slices.Concat(same(77, 3), a, same(99, 260))
	g.all, g.was = append(g.all, all), append(g.was, slices.Clone(all))
	return all[3 : 3+len(a)]
}

// check writes all over what was answered, and looks if what was handed in is as it was.
func (g *guard) check(t *testing.T, answer api.Nat) {
	t.Helper()
	answer = answer[:cap(answer)]
	for i := range answer {
		answer[i] ^= 0x5a5a5a5a
	}
	for i, all := range g.all {
		if !slices.Equal(all, g.was[i]) {
			t.Errorf("the number %d of what was handed in has changed, or is shared", i)
		}
	}
}

// short is the beginning of a's limbs as text.
func short(a api.Nat) string {
	if len(a) > 6 {
		return fmt.Sprintf("%v.. of %d", []uint32(a[:6]), len(a))
	}
	return fmt.Sprint([]uint32(a))
}

func shorts(l []api.Nat) string {
	text := ""
	for i, a := range l {
		if i == 6 {
			return fmt.Sprintf("%s .. of %d", text, len(l))
		}
		text += " " + short(a)
	}
	return text
}

// is holds an answer against what it is to be: a number with its limbs just as they may be, or none beside a reason.
func is(t *testing.T, got api.Nat, e api.Errno, want *big.Int, wantErr api.Errno, what string) {
	t.Helper()
	if wantErr != api.OK {
		want = new(big.Int)
	}
	if e != wantErr || !mayBe(got) || !slices.Equal(got, limbs(want)) {
		t.Errorf("%s = %s, %d, want %s, %d", what, short(got), int(e), short(limbs(want)), int(wantErr))
	}
}

// bit256 is the least number of 257 limbs.
func bit256() *big.Int { return new(big.Int).Lsh(big.NewInt(1), 8192) }

// folded is what the chapter answers of all numbers of l, each taken in by step.
func folded(first int64, step func(z, x, y *big.Int) *big.Int, l []api.Nat) (*big.Int, api.Errno) {
	for _, a := range l {
		if !mayBe(a) {
			return nil, api.ErrArg
		}
	}
	n := big.NewInt(first)
	for _, a := range l {
		if step(n, n, long(a)); n.Cmp(bit256()) >= 0 {
			return nil, api.ErrBig
		}
	}
	return n, api.OK
}

// guardedList is l's numbers, kept by g, in a list with room behind it.
func guardedList(g *guard, l []api.Nat) []api.Nat {
	out := make([]api.Nat, 0, len(l)+3)
	for _, a := range l {
		out = append(out, g.in(a))
	}
	return out
}

func checkAdd(t *testing.T, l ...api.Nat) api.Errno {
	t.Helper()
	want, wantErr := folded(0, (*big.Int).Add, l)
	var g guard
	in := guardedList(&g, l)
	got, e := Add(in...)
	is(t, got, e, want, wantErr, "Add of"+shorts(l))
	checkList(t, in, l)
	g.check(t, got)
	return e
}

func checkMul(t *testing.T, l ...api.Nat) api.Errno {
	t.Helper()
	want, wantErr := folded(1, (*big.Int).Mul, l)
	var g guard
	in := guardedList(&g, l)
	got, e := Mul(in...)
	is(t, got, e, want, wantErr, "Mul of"+shorts(l))
	checkList(t, in, l)
	g.check(t, got)
	return e
}

// checkList looks if a list that was handed in has its numbers still, and nothing in its spare room.
func checkList(t *testing.T, in, was []api.Nat) {
	t.Helper()
	if !slices.EqualFunc(in, was, func(a, b api.Nat) bool { return slices.Equal(a, b) }) {
		t.Errorf("the list%s has changed", shorts(was))
	}
	for _, a := range in[len(in):cap(in)] {
		if a != nil {
			t.Errorf("the room behind the list%s has changed", shorts(was))
		}
	}
}

func checkSub(t *testing.T, a, b api.Nat) {
	t.Helper()
	want, wantErr := new(big.Int).Sub(long(a), long(b)), api.OK
	switch {
	case !mayBe(a) || !mayBe(b):
		wantErr = api.ErrArg
	case want.Sign() < 0:
		wantErr = api.ErrLow
	}
	var g guard
	got, e := Sub(g.in(a), g.in(b))
	is(t, got, e, want, wantErr, "Sub of "+short(a)+" "+short(b))
	g.check(t, got)
}

func checkPow(t *testing.T, a api.Nat, k int) {
	t.Helper()
	want, wantErr := (*big.Int)(nil), api.ErrArg
	if k >= 0 && k <= 64 && mayBe(a) {
		want, wantErr = folded(1, (*big.Int).Mul, slices.Repeat([]api.Nat{a}, k))
	}
	var g guard
	got, e := Pow(g.in(a), k)
	is(t, got, e, want, wantErr, fmt.Sprintf("Pow of %s %d", short(a), k))
	g.check(t, got)
}

func checkDiv(t *testing.T, a api.Nat, d uint64) {
	t.Helper()
	want, left, wantErr := new(big.Int), new(big.Int), api.ErrArg
	if mayBe(a) && d > 0 && d <= math.MaxInt64 {
		want.QuoRem(long(a), new(big.Int).SetUint64(d), left)
		wantErr = api.OK
	}
	var g guard
	got, rest, e := Div(g.in(a), d)
	is(t, got, e, want, wantErr, fmt.Sprintf("Div of %s %d", short(a), d))
	if left.Cmp(new(big.Int).SetUint64(rest)) != 0 {
		t.Errorf("Div of %s %d: %d is left, want %d", short(a), d, rest, left)
	}
	g.check(t, got)
}

// checkPair holds Cmp and Same of a and b against what they are to be.
func checkPair(t *testing.T, a, b api.Nat) {
	t.Helper()
	want := 0
	if mayBe(a) && mayBe(b) {
		want = long(a).Cmp(long(b))
	}
	var g guard
	x, y := g.in(a), g.in(b)
	if got := Cmp(x, y); got != want {
		t.Errorf("Cmp(%s, %s) = %d, want %d", short(a), short(b), got, want)
	}
	if got := Same(x, y); got != slices.Equal(a, b) {
		t.Errorf("Same(%s, %s) = %t", short(a), short(b), got)
	}
	g.check(t, nil)
}

func checkText(t *testing.T, a api.Nat) {
	t.Helper()
	want := ""
	if mayBe(a) {
		want = long(a).String()
	}
	var g guard
	if got := Text(g.in(a)); got != want {
		t.Errorf("Text(%s) = %q, want %q", short(a), got, want)
	}
	g.check(t, nil)
}

func TestRight(t *testing.T) { // P10.1
	for _, c := range []struct {
		a    api.Nat
		want bool
	}{
		{nil, true}, {api.Nat{}, true}, {api.Nat{1}, true}, {api.Nat{most}, true}, {api.Nat{0, 1}, true}, {api.Nat{0, 0, 0, 1}, true},
		{api.Nat{0}, false}, {api.Nat{1, 0}, false}, {api.Nat{0, 0}, false}, {api.Nat{1, 1, 0}, false},
		{same(1, 255), true}, {same(1, 256), true}, {same(most, 256), true}, {append(make(api.Nat, 255), 1), true},
		{make(api.Nat, 256), false}, {append(same(1, 255), 0), false}, {same(1, 257), false}, {append(same(1, 256), 0), false}, {make(api.Nat, 257), false}, {same(most, 1000), false},
	} {
		if got := Right(c.a); got != c.want {
			t.Errorf("Right(%s) = %t", short(c.a), got)
		}
	}
	for i, l := range [][]api.Nat{rights(), wrongs()} {
		for _, a := range l {
			var g guard
			if got := Right(g.in(a)); got != (i == 0) {
				t.Errorf("Right(%s) = %t", short(a), got)
			}
			g.check(t, nil)
		}
	}
}

func TestOf(t *testing.T) { // P10.1
	for n, want := range map[uint64]api.Nat{
		0: nil, 1: {1}, 9: {9}, 1<<31 - 1: {1<<31 - 1}, 1 << 31: {1 << 31}, most: {most},
		1 << 32: {0, 1}, 1<<32 + 1: {1, 1}, 5<<32 + 7: {7, 5}, most << 32: {0, most}, 1 << 63: {0, 1 << 31}, math.MaxUint64: {most, most}, 0x0102030405060708: {0x05060708, 0x01020304},
	} {
		if got := Of(n); !slices.Equal(got, want) {
			t.Errorf("Of(%d) = %v", n, got)
		}
	}
	for k := range 64 {
		for d := range uint64(5) {
			n := uint64(1)<<k + d - 2
			is(t, Of(n), api.OK, new(big.Int).SetUint64(n), api.OK, fmt.Sprintf("Of(%d)", n))
		}
	}
	// Each answer is memory of its own.
	Of(5<<32 + 7)[0] = 1
	if got := Of(5<<32 + 7); !slices.Equal(got, api.Nat{7, 5}) {
		t.Errorf("Of(%d) = %v", uint64(5<<32+7), got)
	}
}

func TestTwo(t *testing.T) { // P10.1
	for k, want := range map[int]api.Nat{0: {1}, 1: {2}, 30: {1 << 30}, 31: {1 << 31}, 32: {0, 1}, 33: {0, 2}, 63: {0, 1 << 31}, 64: {0, 0, 1}, 8159: append(make(api.Nat, 254), 1<<31), 8160: append(make(api.Nat, 255), 1), 8191: append(make(api.Nat, 255), 1<<31)} {
		if got, e := Two(k); !slices.Equal(got, want) || e != api.OK {
			t.Errorf("Two(%d) = %s, %d", k, short(got), int(e))
		}
	}
	for k := range 8192 {
		got, e := Two(k)
		is(t, got, e, new(big.Int).Lsh(big.NewInt(1), uint(k)), api.OK, fmt.Sprintf("Two(%d)", k))
	}
	for _, k := range []int{-1, -2, -31, -32, -33, -64, math.MinInt32, math.MinInt, 8192, 8193, 8224, 9000, 1 << 20, math.MaxInt32, math.MaxInt} {
		got, e := Two(k)
		is(t, got, e, nil, api.ErrArg, fmt.Sprintf("Two(%d)", k))
	}
}

// byHand is numbers, and what comes of them.
type byHand struct {
	l    []api.Nat
	want api.Nat
	e    api.Errno
}

func checkByHand(t *testing.T, call func(l ...api.Nat) (api.Nat, api.Errno), cases []byHand) {
	t.Helper()
	for _, c := range cases {
		if got, e := call(c.l...); !slices.Equal(got, c.want) || e != c.e {
			t.Errorf("of%s: %s, %d, want %s, %d", shorts(c.l), short(got), int(e), short(c.want), int(c.e))
		}
	}
}

func TestAddByHand(t *testing.T) { // P10.1
	top := same(most, 256)
	checkByHand(t, Add, []byHand{
		{nil, nil, api.OK}, {[]api.Nat{}, nil, api.OK}, {[]api.Nat{nil}, nil, api.OK}, {[]api.Nat{{}, nil, {}}, nil, api.OK},
		{[]api.Nat{{7}}, api.Nat{7}, api.OK}, {[]api.Nat{{7}, {5}}, api.Nat{12}, api.OK}, {[]api.Nat{{1}, {2}, {3}, nil, {4}}, api.Nat{10}, api.OK},
		{[]api.Nat{{most}, {1}}, api.Nat{0, 1}, api.OK}, {[]api.Nat{{1}, {most}}, api.Nat{0, 1}, api.OK}, {[]api.Nat{{most}, {most}}, api.Nat{most - 1, 1}, api.OK}, {[]api.Nat{{most}, {most}, {2}}, api.Nat{0, 2}, api.OK},
		{[]api.Nat{{most, most}, {1}}, api.Nat{0, 0, 1}, api.OK}, {[]api.Nat{{1}, {most, most}}, api.Nat{0, 0, 1}, api.OK}, {[]api.Nat{{most, 5}, {1}}, api.Nat{0, 6}, api.OK}, {[]api.Nat{{0, 1}, {1}}, api.Nat{1, 1}, api.OK},
		{[]api.Nat{same(most, 255), {1}}, above(0, 255), api.OK}, {[]api.Nat{same(most, 200), same(most, 200)}, append(append(api.Nat{most - 1}, same(most, 199)...), 1), api.OK},
		{[]api.Nat{top}, top, api.OK}, {[]api.Nat{top, nil}, top, api.OK}, {[]api.Nat{nil, top}, top, api.OK}, {[]api.Nat{same(most, 255), append(make(api.Nat, 255), most)}, top, api.OK},
		{[]api.Nat{top, {1}}, nil, api.ErrBig}, {[]api.Nat{{1}, top}, nil, api.ErrBig}, {[]api.Nat{top, top}, nil, api.ErrBig}, {[]api.Nat{top, {1}, nil}, nil, api.ErrBig}, {[]api.Nat{nil, top, nil, {1}}, nil, api.ErrBig},
		{[]api.Nat{append(make(api.Nat, 255), 1<<31), append(make(api.Nat, 255), 1<<31)}, nil, api.ErrBig}, {[]api.Nat{append(make(api.Nat, 255), 1<<31), append(make(api.Nat, 255), 1<<31-1)}, append(make(api.Nat, 255), most), api.OK},
		{[]api.Nat{{0}}, nil, api.ErrArg}, {[]api.Nat{{1, 0}}, nil, api.ErrArg}, {[]api.Nat{{1}, {2}, {0}}, nil, api.ErrArg}, {[]api.Nat{same(1, 257)}, nil, api.ErrArg}, {[]api.Nat{nil, make(api.Nat, 257)}, nil, api.ErrArg},
		{[]api.Nat{top, {1}, {0}}, nil, api.ErrArg}, {[]api.Nat{{0}, top, {1}}, nil, api.ErrArg}, {[]api.Nat{top, {1}, same(1, 257)}, nil, api.ErrArg},
	})
}

func TestMulByHand(t *testing.T) { // P10.1
	top, half := same(most, 256), append(make(api.Nat, 127), 1<<31)
	checkByHand(t, Mul, []byHand{
		{nil, api.Nat{1}, api.OK}, {[]api.Nat{}, api.Nat{1}, api.OK}, {[]api.Nat{nil}, nil, api.OK}, {[]api.Nat{{}}, nil, api.OK}, {[]api.Nat{nil, nil}, nil, api.OK},
		{[]api.Nat{{7}}, api.Nat{7}, api.OK}, {[]api.Nat{{7}, {5}}, api.Nat{35}, api.OK}, {[]api.Nat{{1}, {2}, {3}, {4}}, api.Nat{24}, api.OK}, {[]api.Nat{{1}, {2}, nil, {4}}, nil, api.OK},
		{[]api.Nat{{most}, {most}}, api.Nat{1, most - 1}, api.OK}, {[]api.Nat{{1 << 16}, {1 << 16}}, api.Nat{0, 1}, api.OK}, {[]api.Nat{{0, 1}, {0, 1}}, api.Nat{0, 0, 1}, api.OK}, {[]api.Nat{{0, 1}, {0, 1}, {5}}, api.Nat{0, 0, 5}, api.OK},
		{[]api.Nat{{most, most}, {most, most}}, api.Nat{1, 0, most - 1, most}, api.OK}, {[]api.Nat{{most, most}, {2}}, api.Nat{most - 1, most, 1}, api.OK},
		{[]api.Nat{{3, 2}, {5}}, api.Nat{15, 10}, api.OK}, {[]api.Nat{{3, 2}, {5, 7}}, api.Nat{15, 31, 14}, api.OK},
		{[]api.Nat{same(most, 255), {most}}, append(append(api.Nat{1}, same(most, 254)...), most-1), api.OK},
		{[]api.Nat{top}, top, api.OK}, {[]api.Nat{top, {1}}, top, api.OK}, {[]api.Nat{{1}, top, {1}}, top, api.OK}, {[]api.Nat{top, nil}, nil, api.OK}, {[]api.Nat{nil, top}, nil, api.OK},
		{[]api.Nat{top, {2}}, nil, api.ErrBig}, {[]api.Nat{{2}, top}, nil, api.ErrBig}, {[]api.Nat{top, top}, nil, api.ErrBig}, {[]api.Nat{top, same(most, 256), top}, nil, api.ErrBig},
		// What is too much on the way stays so, though 0 follows; ahead of it, 0 keeps all small.
		{[]api.Nat{top, {2}, nil}, nil, api.ErrBig}, {[]api.Nat{{2}, top, {}}, nil, api.ErrBig}, {[]api.Nat{nil, top, {2}}, nil, api.OK}, {[]api.Nat{top, nil, {2}}, nil, api.OK}, {[]api.Nat{nil, top, top, top}, nil, api.OK},
		// The product of 128 and 128 limbs has 255 or 256, that of 129 and 128 has 256 or 257.
		{[]api.Nat{half, half}, append(make(api.Nat, 255), 1<<30), api.OK}, {[]api.Nat{half, half, {2}}, append(make(api.Nat, 255), 1<<31), api.OK}, {[]api.Nat{half, half, {3}}, append(make(api.Nat, 255), 3<<30), api.OK}, {[]api.Nat{half, half, {4}}, nil, api.ErrBig},
		{[]api.Nat{above(0, 128), above(0, 127)}, above(0, 255), api.OK}, {[]api.Nat{above(0, 128), above(0, 128)}, nil, api.ErrBig}, {[]api.Nat{above(0, 128), half}, append(make(api.Nat, 255), 1<<31), api.OK}, {[]api.Nat{append(make(api.Nat, 128), 2), half}, nil, api.ErrBig},
		{[]api.Nat{{0}}, nil, api.ErrArg}, {[]api.Nat{{1, 0}}, nil, api.ErrArg}, {[]api.Nat{{1}, nil, {0}}, nil, api.ErrArg}, {[]api.Nat{nil, same(1, 257)}, nil, api.ErrArg}, {[]api.Nat{same(1, 257), nil}, nil, api.ErrArg},
		{[]api.Nat{top, {2}, {0}}, nil, api.ErrArg}, {[]api.Nat{{0}, top, {2}}, nil, api.ErrArg}, {[]api.Nat{top, top, make(api.Nat, 257)}, nil, api.ErrArg},
	})
}

func TestSubByHand(t *testing.T) { // P10.1
	top := same(most, 256)
	for _, c := range []struct {
		a, b, want api.Nat
		e          api.Errno
	}{
		{nil, nil, nil, api.OK}, {api.Nat{}, nil, nil, api.OK}, {api.Nat{7}, nil, api.Nat{7}, api.OK}, {api.Nat{7}, api.Nat{5}, api.Nat{2}, api.OK}, {api.Nat{7}, api.Nat{7}, nil, api.OK},
		{api.Nat{7}, api.Nat{8}, nil, api.ErrLow}, {nil, api.Nat{1}, nil, api.ErrLow}, {api.Nat{7}, api.Nat{0, 1}, nil, api.ErrLow}, {api.Nat{most, most}, api.Nat{0, 0, 1}, nil, api.ErrLow},
		{api.Nat{0, 1}, api.Nat{1}, api.Nat{most}, api.OK}, {api.Nat{0, 0, 1}, api.Nat{1}, api.Nat{most, most}, api.OK}, {api.Nat{0, 0, 1}, api.Nat{0, 1}, api.Nat{0, most}, api.OK}, {api.Nat{0, 2}, api.Nat{1, 1}, api.Nat{most}, api.OK}, {api.Nat{5, 5}, api.Nat{6}, api.Nat{most, 4}, api.OK},
		{api.Nat{5, 5, 5}, api.Nat{5, 5, 5}, nil, api.OK}, {api.Nat{5, 5, 5}, api.Nat{4, 5, 5}, api.Nat{1}, api.OK}, {api.Nat{5, 5, 5}, api.Nat{6, 5, 5}, nil, api.ErrLow}, {api.Nat{5, 5, 5}, api.Nat{6, 4, 5}, api.Nat{most}, api.OK}, {api.Nat{5, 5, 5}, api.Nat{0, 0, 6}, nil, api.ErrLow},
		{api.Nat{0, 5}, api.Nat{most, 4}, api.Nat{1}, api.OK}, {api.Nat{0, 0, 5}, api.Nat{most, most, 4}, api.Nat{1}, api.OK},
		{above(0, 255), api.Nat{1}, same(most, 255), api.OK}, {top, top, nil, api.OK}, {top, nil, top, api.OK}, {top, append(api.Nat{most - 1}, same(most, 255)...), api.Nat{1}, api.OK}, {append(api.Nat{most - 1}, same(most, 255)...), top, nil, api.ErrLow}, {nil, top, nil, api.ErrLow},
		{api.Nat{0}, nil, nil, api.ErrArg}, {nil, api.Nat{0}, nil, api.ErrArg}, {api.Nat{1, 0}, api.Nat{1}, nil, api.ErrArg}, {api.Nat{9}, api.Nat{1, 0}, nil, api.ErrArg}, {same(1, 257), nil, nil, api.ErrArg}, {top, same(1, 257), nil, api.ErrArg}, {api.Nat{0}, top, nil, api.ErrArg}, {same(1, 257), same(1, 257), nil, api.ErrArg},
	} {
		if got, e := Sub(c.a, c.b); !slices.Equal(got, c.want) || e != c.e {
			t.Errorf("Sub(%s, %s) = %s, %d, want %s, %d", short(c.a), short(c.b), short(got), int(e), short(c.want), int(c.e))
		}
	}
}

func TestPowByHand(t *testing.T) { // P10.1
	for _, c := range []struct {
		a    api.Nat
		k    int
		want api.Nat
		e    api.Errno
	}{
		{nil, 0, api.Nat{1}, api.OK}, {nil, 1, nil, api.OK}, {nil, 64, nil, api.OK}, {api.Nat{1}, 0, api.Nat{1}, api.OK}, {api.Nat{1}, 64, api.Nat{1}, api.OK},
		{api.Nat{7}, 0, api.Nat{1}, api.OK}, {api.Nat{7}, 1, api.Nat{7}, api.OK}, {api.Nat{7}, 2, api.Nat{49}, api.OK}, {api.Nat{2}, 31, api.Nat{1 << 31}, api.OK}, {api.Nat{2}, 32, api.Nat{0, 1}, api.OK}, {api.Nat{2}, 63, api.Nat{0, 1 << 31}, api.OK}, {api.Nat{2}, 64, api.Nat{0, 0, 1}, api.OK},
		{api.Nat{3}, 64, api.Nat{0x797ebd01, 0x7932278c, 0x56d4af8f, 0x2b}, api.OK},
		// 2^127 to the 64 has 8129 bits, 2^128 to the 64 is one bit too much, to the 63 it isn't.
		{api.Nat{0, 0, 0, 1 << 31}, 64, append(make(api.Nat, 254), 1), api.OK}, {api.Nat{0, 0, 0, 0, 1}, 63, append(make(api.Nat, 252), 1), api.OK}, {api.Nat{0, 0, 0, 0, 1}, 64, nil, api.ErrBig},
		{same(most, 256), 0, api.Nat{1}, api.OK}, {same(most, 256), 1, same(most, 256), api.OK}, {same(most, 256), 2, nil, api.ErrBig}, {same(most, 256), 64, nil, api.ErrBig}, {above(0, 255), 2, nil, api.ErrBig},
		{nil, -1, nil, api.ErrArg}, {nil, 65, nil, api.ErrArg}, {api.Nat{1}, -1, nil, api.ErrArg}, {api.Nat{1}, 65, nil, api.ErrArg}, {api.Nat{1}, math.MinInt, nil, api.ErrArg}, {api.Nat{1}, math.MaxInt, nil, api.ErrArg},
		{same(most, 256), 65, nil, api.ErrArg}, {api.Nat{0}, 0, nil, api.ErrArg}, {api.Nat{0}, 1, nil, api.ErrArg}, {api.Nat{1, 0}, 2, nil, api.ErrArg}, {same(1, 257), 0, nil, api.ErrArg}, {same(1, 257), 64, nil, api.ErrArg},
	} {
		if got, e := Pow(c.a, c.k); !slices.Equal(got, c.want) || e != c.e {
			t.Errorf("Pow(%s, %d) = %s, %d, want %s, %d", short(c.a), c.k, short(got), int(e), short(c.want), int(c.e))
		}
	}
}

func TestDivByHand(t *testing.T) { // P10.1
	for _, c := range []struct {
		a    api.Nat
		d    uint64
		want api.Nat
		left uint64
		e    api.Errno
	}{
		{nil, 1, nil, 0, api.OK}, {api.Nat{}, 1<<63 - 1, nil, 0, api.OK}, {api.Nat{7}, 1, api.Nat{7}, 0, api.OK}, {api.Nat{7}, 2, api.Nat{3}, 1, api.OK}, {api.Nat{7}, 7, api.Nat{1}, 0, api.OK}, {api.Nat{7}, 8, nil, 7, api.OK}, {api.Nat{7}, 1<<63 - 1, nil, 7, api.OK},
		{api.Nat{0, 1}, 1, api.Nat{0, 1}, 0, api.OK}, {api.Nat{0, 1}, 2, api.Nat{1 << 31}, 0, api.OK}, {api.Nat{3, 1}, 1 << 32, api.Nat{1}, 3, api.OK}, {api.Nat{3, 1}, 1<<32 + 4, nil, 1<<32 + 3, api.OK}, {api.Nat{3, 1}, most, api.Nat{1}, 4, api.OK},
		{api.Nat{1, 2, 3}, 1 << 32, api.Nat{2, 3}, 1, api.OK}, {api.Nat{most, most}, 1<<63 - 1, api.Nat{2}, 1, api.OK}, {api.Nat{0, 0, 1}, 1<<63 - 1, api.Nat{2}, 2, api.OK}, {api.Nat{most - 1, most >> 1}, 1<<63 - 1, nil, 1<<63 - 2, api.OK}, {api.Nat{most, most >> 1}, 1<<63 - 1, api.Nat{1}, 0, api.OK},
		{same(most, 256), 1, same(most, 256), 0, api.OK}, {same(most, 256), most, same(1, 256), 0, api.OK}, {same(most, 256), 1 << 32, same(most, 255), most, api.OK},
		{nil, 0, nil, 0, api.ErrArg}, {api.Nat{7}, 0, nil, 0, api.ErrArg}, {nil, 1 << 63, nil, 0, api.ErrArg}, {api.Nat{7}, 1 << 63, nil, 0, api.ErrArg}, {api.Nat{7}, 1<<63 + 1, nil, 0, api.ErrArg}, {api.Nat{7}, math.MaxUint64, nil, 0, api.ErrArg},
		{api.Nat{0}, 1, nil, 0, api.ErrArg}, {api.Nat{7, 0}, 2, nil, 0, api.ErrArg}, {same(1, 257), 1, nil, 0, api.ErrArg}, {same(1, 257), 0, nil, 0, api.ErrArg}, {make(api.Nat, 257), 3, nil, 0, api.ErrArg},
	} {
		if got, left, e := Div(c.a, c.d); !slices.Equal(got, c.want) || left != c.left || e != c.e {
			t.Errorf("Div(%s, %d) = %s, %d, %d, want %s, %d, %d", short(c.a), c.d, short(got), left, int(e), short(c.want), c.left, int(c.e))
		}
	}
}

func TestCmpByHand(t *testing.T) { // P10.1
	for _, c := range []struct {
		a, b api.Nat
		want int
	}{
		{nil, nil, 0}, {nil, api.Nat{}, 0}, {nil, api.Nat{1}, -1}, {api.Nat{1}, nil, 1}, {api.Nat{1}, api.Nat{2}, -1}, {api.Nat{2}, api.Nat{1}, 1}, {api.Nat{2}, api.Nat{2}, 0},
		{api.Nat{most}, api.Nat{0, 1}, -1}, {api.Nat{0, 1}, api.Nat{most}, 1}, {api.Nat{1, 2}, api.Nat{2, 1}, 1}, {api.Nat{2, 1}, api.Nat{1, 2}, -1}, {api.Nat{1, 2}, api.Nat{2, 2}, -1}, {api.Nat{1, 2}, api.Nat{1, 2}, 0}, {api.Nat{0, 0, 1}, api.Nat{most, most}, 1},
		{api.Nat{0}, api.Nat{1}, 0}, {api.Nat{1}, api.Nat{0}, 0}, {api.Nat{1, 0}, api.Nat{5}, 0}, {api.Nat{5}, api.Nat{1, 0}, 0}, {same(1, 257), api.Nat{1}, 0}, {api.Nat{1}, same(1, 257), 0}, {same(1, 257), same(2, 257), 0}, {nil, api.Nat{0}, 0}, {api.Nat{0}, api.Nat{0, 0}, 0},
		{same(1, 256), same(1, 255), 1}, {same(1, 256), append(api.Nat{2}, same(1, 255)...), -1}, {same(1, 256), same(1, 256), 0}, {same(1, 256), append(same(1, 255), 2), -1}, {same(2, 256), append(same(1, 255), 3), -1}, {same(1, 256), same(1, 257), 0},
	} {
		if got := Cmp(c.a, c.b); got != c.want {
			t.Errorf("Cmp(%s, %s) = %d, want %d", short(c.a), short(c.b), got, c.want)
		}
	}
}

func TestSameByHand(t *testing.T) { // P10.1
	for _, c := range []struct {
		a, b api.Nat
		want bool
	}{
		{nil, nil, true}, {nil, api.Nat{}, true}, {api.Nat{}, nil, true}, {api.Nat{1}, api.Nat{1}, true}, {api.Nat{1, 2}, api.Nat{1, 2}, true}, {api.Nat{1, 2}, api.Nat{2, 1}, false}, {api.Nat{1}, api.Nat{1, 2}, false}, {api.Nat{1, 2}, api.Nat{1}, false}, {nil, api.Nat{1}, false},
		// Of what may not be the limbs count, not the number.
		{nil, api.Nat{0}, false}, {api.Nat{0}, nil, false}, {api.Nat{0}, api.Nat{0}, true}, {api.Nat{0}, api.Nat{0, 0}, false}, {api.Nat{1}, api.Nat{1, 0}, false}, {api.Nat{1, 0}, api.Nat{1, 0}, true}, {same(1, 257), same(1, 257), true}, {same(1, 257), same(1, 258), false}, {same(1, 257), append(same(1, 256), 2), false}, {same(1, 256), append(same(1, 255), 2), false}, {same(1, 256), append(api.Nat{2}, same(1, 255)...), false},
	} {
		if got := Same(c.a, c.b); got != c.want {
			t.Errorf("Same(%s, %s) = %t", short(c.a), short(c.b), got)
		}
	}
}

func TestTextByHand(t *testing.T) { // P10.1
	for _, c := range []struct {
		a    api.Nat
		want string
	}{
		{nil, "0"}, {api.Nat{}, "0"}, {api.Nat{1}, "1"}, {api.Nat{9}, "9"}, {api.Nat{10}, "10"}, {api.Nat{1000000000}, "1000000000"}, {api.Nat{1000000007}, "1000000007"}, {api.Nat{most}, "4294967295"}, {api.Nat{0, 1}, "4294967296"}, {api.Nat{0, 0, 1}, "18446744073709551616"}, {api.Nat{0, 0, 0, 1}, "79228162514264337593543950336"},
		{api.Nat{0}, ""}, {api.Nat{1, 0}, ""}, {make(api.Nat, 256), ""}, {same(1, 257), ""}, {make(api.Nat, 257), ""},
	} {
		if got := Text(c.a); got != c.want {
			t.Errorf("Text(%s) = %q, want %q", short(c.a), got, c.want)
		}
	}
}

func TestTextAboutPowersOfTen(t *testing.T) { // P10.1: noughts, and nines, as many as there may be
	ten, n := big.NewInt(10), big.NewInt(1)
	for k := range 2467 {
		checkDigits(t, n, "1"+strings.Repeat("0", k))
		checkDigits(t, new(big.Int).Sub(n, big.NewInt(1)), strings.TrimLeft(strings.Repeat("9", k), "0"))
		checkDigits(t, new(big.Int).Add(n, n), "2"+strings.Repeat("0", k))
		if k > 0 {
			checkDigits(t, new(big.Int).Add(n, big.NewInt(7)), "1"+strings.Repeat("0", k-1)+"7")
		}
		n.Mul(n, ten)
	}
}

// checkDigits holds the text of n against want; 0 has the digit 0.
func checkDigits(t *testing.T, n *big.Int, want string) {
	t.Helper()
	if n.Cmp(bit256()) >= 0 {
		return
	}
	if want == "" {
		want = "0"
	}
	if got := Text(limbs(n)); got != want {
		t.Errorf("Text of %s.. (%d digits) = %q", want[:1], len(want), got)
	}
}

func TestTextOfNoughtsWithin(t *testing.T) { // P10.1: a nought, or a few, at each place of the digits
	for size := 1; size < 60; size++ {
		for at := 1; at <= size; at++ {
			for count := 1; at+count <= size+1 && count < 22; count++ {
				want := strings.Repeat("7", at) + strings.Repeat("0", count) + strings.Repeat("3", size+1-at-count)
				n, _ := new(big.Int).SetString(want, 10)
				checkDigits(t, n, want)
			}
		}
	}
}

func TestTextOfMany(t *testing.T) { // P10.1
	for _, a := range slices.Concat(rights(), wrongs()) {
		checkText(t, a)
	}
	for count := range 260 {
		checkText(t, mixed(count))
		checkText(t, same(most, count))
	}
}

func TestPairs(t *testing.T) { // P10.1: also of what may not be, ahead and behind
	l := slices.Concat(rights(), wrongs())
	for _, a := range l {
		for _, b := range l {
			checkSub(t, a, b)
			checkPair(t, a, b)
		}
	}
}

func TestSumsAndProductsOfTwo(t *testing.T) { // P10.1
	seen := map[api.Errno]int{}
	l := slices.Concat(rights(), wrongs())
	for _, a := range l {
		for _, b := range l {
			seen[checkAdd(t, a, b)]++
			seen[checkMul(t, a, b)]++
		}
	}
	if seen[api.OK] == 0 || seen[api.ErrArg] == 0 || seen[api.ErrBig] == 0 {
		t.Error("not all that may come came:", seen)
	}
}

// few are numbers of which rows are made.
func few() []api.Nat {
	return []api.Nat{nil, {1}, {most}, {0, 1}, above(0, 127), append(make(api.Nat, 127), 1<<31), same(most, 255), append(make(api.Nat, 255), 1<<31), same(most, 256), {0}, same(1, 257)}
}

// rows are all lists of that length of these numbers, each handed to each.
func rows(l []api.Nat, length int, each func(row []api.Nat)) {
	row := make([]api.Nat, length)
	var fill func(i int)
	fill = func(i int) {
		if i == length {
			each(row)
			return
		}
		for _, a := range l {
			row[i] = a
			fill(i + 1)
		}
	}
	fill(0)
}

func TestSumsAndProductsInRows(t *testing.T) { // P10.1: of none, of one, of a few, with each number at each place
	for length := range 4 {
		rows(few(), length, func(row []api.Nat) {
			checkAdd(t, row...)
			checkMul(t, row...)
		})
	}
	rows(few()[5:], 4, func(row []api.Nat) {
		checkAdd(t, row...)
		checkMul(t, row...)
	})
	rows([]api.Nat{nil, {2}, same(most, 256), {0}}, 5, func(row []api.Nat) { checkMul(t, row...) })
}

func TestSumsOfMany(t *testing.T) { // P10.1
	for _, count := range []int{5, 64, 257, 1000, 5000} {
		for _, a := range []api.Nat{nil, {1}, {most}, mixed(2), mixed(40), same(most, 255)} {
			l := slices.Repeat([]api.Nat{a}, count)
			checkAdd(t, l...)
			checkAdd(t, append(l, api.Nat{0})...)
			checkAdd(t, append(l, same(most, 256), api.Nat{5})...)
		}
	}
	l := make([]api.Nat, 300)
	for i := range l {
		l[i] = mixed(i % 256)
	}
	checkAdd(t, l...)
	for range 3 {
		l = append(l, l...)
	}
	checkAdd(t, l...)
}

func TestSumsAboutTheBound(t *testing.T) { // P10.1: what brings all to 256 limbs of ones, and one more, at each place
	l := []api.Nat{{5}, mixed(256), nil, mixed(100), same(1, 200)}
	l[1][255] >>= 1
	all, e := folded(0, (*big.Int).Add, l)
	if e != api.OK {
		t.Fatal(int(e))
	}
	for d := range int64(4) {
		more := new(big.Int).Sub(bit256(), all)
		more.Add(more, big.NewInt(d-2))
		for at := range len(l) + 1 {
			want := api.OK
			if d >= 2 {
				want = api.ErrBig
			}
			if got := checkAdd(t, slices.Insert(slices.Clone(l), at, limbs(more))...); got != want {
				t.Errorf("%d more, at %d: %d", d-2, at, int(got))
			}
		}
	}
}

func TestProductsOfMany(t *testing.T) { // P10.1
	for _, a := range []api.Nat{nil, {1}, {2}, {3}, {most}, {0, 1}, mixed(3), above(1, 2)} {
		for _, count := range []int{3, 5, 17, 63, 64, 65, 128, 255, 256, 257, 1000} {
			l := slices.Repeat([]api.Nat{a}, count)
			checkMul(t, l...)
			checkMul(t, append(l, nil)...)
			checkMul(t, append(l, api.Nat{1, 0})...)
			checkMul(t, append([]api.Nat{nil}, l...)...)
		}
	}
	for _, count := range []int{8190, 8191, 8192} {
		checkMul(t, slices.Repeat([]api.Nat{{2}}, count)...)
	}
	l := make([]api.Nat, 23)
	for i := range l {
		l[i] = mixed(i%22 + 1)
	}
	checkMul(t, l[:22]...)
	checkMul(t, l...)
	checkMul(t, slices.Concat(l, slices.Repeat([]api.Nat{{2}}, 200))...)
}

func TestProductsAboutTheBound(t *testing.T) { // P10.1: just below 2^8192, there, and above, also where a later factor is 0
	seen := map[api.Errno]int{}
	for count := 1; count < 256; count++ {
		a := mixed(count)
		b := new(big.Int).Quo(new(big.Int).Sub(bit256(), big.NewInt(1)), long(a))
		for d := range int64(3) {
			other := limbs(new(big.Int).Add(b, big.NewInt(d-1)))
			seen[checkMul(t, a, other)]++
			checkMul(t, other, a)
			checkMul(t, a, other, nil)
			checkMul(t, a, nil, other)
			checkMul(t, a, other, api.Nat{1})
		}
	}
	if seen[api.OK] != 2*255 || seen[api.ErrBig] != 255 {
		t.Error("not what may come came:", seen)
	}
}

func TestCarries(t *testing.T) { // P10.1: through all limbs, of each number
	for count := 1; count <= 256; count++ {
		top := same(most, count)
		checkAdd(t, top, api.Nat{1})
		checkAdd(t, api.Nat{1}, top)
		checkAdd(t, top, top)
		checkMul(t, top, api.Nat{most})
		checkMul(t, top, same(most, 256-count))
		checkMul(t, top, same(most, 257-count))
		for at := range count {
			checkAdd(t, top, append(make(api.Nat, at), 1))
			checkSub(t, append(make(api.Nat, count-1), 1), append(make(api.Nat, at), 1))
		}
		checkSub(t, append(make(api.Nat, count-1), 5), append(same(most, count-1), 4))
		checkSub(t, top, append(api.Nat{most - 1}, top[1:]...))
		checkSub(t, append(api.Nat{most - 1}, top[1:]...), top)
	}
}

func TestSubAboutTheBound(t *testing.T) { // P10.1: b just below a, equal to it, just above
	for _, a := range rights() {
		for d := range int64(5) {
			b := new(big.Int).Add(long(a), big.NewInt(d-2))
			if b.Sign() < 0 || b.Cmp(bit256()) >= 0 {
				continue
			}
			checkSub(t, a, limbs(b))
			checkPair(t, a, limbs(b))
			checkPair(t, limbs(b), a)
		}
	}
}

func TestPow(t *testing.T) { // P10.1
	for k := -3; k < 70; k++ {
		for _, a := range []api.Nat{nil, {1}, {2}, {10}, {most}, {0, 1}, mixed(2), mixed(3), mixed(4), same(most, 4), above(0, 3), above(0, 4), append(make(api.Nat, 3), 1<<31), mixed(5), mixed(8), above(0, 127), above(0, 128), same(most, 128), mixed(256), same(most, 256)} {
			checkPow(t, a, k)
		}
		for _, a := range wrongs() {
			checkPow(t, a, k)
		}
	}
	for _, k := range []int{math.MinInt, math.MinInt32, -64, 128, 1 << 20, 1 << 32, 1<<32 + 1, math.MaxInt} {
		for _, a := range []api.Nat{nil, {1}, {2}, same(most, 256), {0}} {
			checkPow(t, a, k)
		}
	}
}

// divisors are those that may be, and those that may not.
func divisors() ([]uint64, []uint64) {
	l := []uint64{1, 2, 3, 5, 7, 10, 1000, 999999999999, 1000000000000000000, 3037000499, 6148914691236517205, 1<<63 - 3, 1<<63 - 2, 1<<63 - 1}
	for k := 2; k < 63; k++ {
		l = append(l, 1<<k-1, 1<<k, 1<<k+1)
	}
	return l, []uint64{0, 1 << 63, 1<<63 + 1, 3 << 62, math.MaxUint64 - 1, math.MaxUint64}
}

func TestDiv(t *testing.T) { // P10.1
	may, mayNot := divisors()
	for _, d := range slices.Concat(may, mayNot) {
		for _, a := range slices.Concat(rights(), wrongs()) {
			checkDiv(t, a, d)
		}
	}
}

func TestDivAboutManyTimes(t *testing.T) { // P10.1: just below so many times d, just that, just above
	may, _ := divisors()
	for _, d := range may {
		for _, times := range []api.Nat{{1}, {2}, {most}, {0, 1}, mixed(3), same(most, 9), mixed(254)} {
			n := new(big.Int).Mul(long(times), new(big.Int).SetUint64(d))
			for more := range int64(3) {
				checkDiv(t, limbs(new(big.Int).Add(n, big.NewInt(more-1))), d)
			}
		}
	}
}

func TestSmallNumbers(t *testing.T) { // P10.1
	for a := range uint64(70) {
		checkText(t, Of(a))
		for b := range uint64(70) {
			checkAdd(t, Of(a), Of(b))
			checkMul(t, Of(a), Of(b))
			checkSub(t, Of(a), Of(b))
			checkDiv(t, Of(a), b)
			checkPow(t, Of(a), int(b))
			checkPair(t, Of(a), Of(b))
		}
	}
}

func TestWrongOneAtEachPlace(t *testing.T) { // P10.1: ErrArg, whatever the others come to
	for _, bad := range wrongs() {
		for _, l := range [][]api.Nat{{}, {nil}, {{1}, {2}, {3}}, {same(most, 256), {2}}, {same(most, 256), same(most, 256), nil}} {
			for at := range len(l) + 1 {
				row := slices.Insert(slices.Clone(l), at, bad)
				if e := checkAdd(t, row...); e != api.ErrArg {
					t.Errorf("Add of%s: %d", shorts(row), int(e))
				}
				if e := checkMul(t, row...); e != api.ErrArg {
					t.Errorf("Mul of%s: %d", shorts(row), int(e))
				}
			}
		}
	}
}

func TestOneNumberTwice(t *testing.T) { // P10.1: the same memory, handed in at two places
	for _, a := range rights() {
		var g guard
		in := g.in(a)
		sum, e := Add(in, in)
		want, wantErr := folded(0, (*big.Int).Add, []api.Nat{a, a})
		is(t, sum, e, want, wantErr, "Add of two of "+short(a))
		product, e := Mul(in, in)
		want, wantErr = folded(1, (*big.Int).Mul, []api.Nat{a, a})
		is(t, product, e, want, wantErr, "Mul of two of "+short(a))
		rest, e := Sub(in, in)
		is(t, rest, e, new(big.Int), api.OK, "Sub of two of "+short(a))
		if Cmp(in, in) != 0 || !Same(in, in) {
			t.Errorf("%s isn't like itself", short(a))
		}
		g.check(t, sum)
		g.check(t, product)
	}
}

func TestAskedAgain(t *testing.T) { // P10.1: a call hangs on its arguments alone
	for _, a := range rights() {
		first, _ := Mul(a, api.Nat{most})
		kept := slices.Clone(first)
		Mul(same(most, 100), same(most, 100))
		Add(same(most, 255), api.Nat{1})
		if second, _ := Mul(a, api.Nat{most}); !slices.Equal(first, kept) || !slices.Equal(second, kept) {
			t.Errorf("Mul of %s: %s, then %s", short(a), short(kept), short(second))
		}
	}
}

func TestAddedComesBack(t *testing.T) { // P10.2
	for _, a := range rights() {
		for _, b := range rights() {
			sum, e := Add(a, b)
			if e != api.OK {
				// Together they are too much: neither leaves room for the other one.
				if room, f := Sub(same(most, 256), a); e != api.ErrBig || f != api.OK || Cmp(b, room) != 1 {
					t.Errorf("Add(%s, %s): %d, though there is room", short(a), short(b), int(e))
				}
				continue
			}
			first, e1 := Sub(sum, b)
			second, e2 := Sub(sum, a)
			if !Same(first, a) || !Same(second, b) || e1 != api.OK || e2 != api.OK {
				t.Errorf("Add(%s, %s) comes back as %s, %d and %s, %d", short(a), short(b), short(first), int(e1), short(second), int(e2))
			}
		}
	}
}

func TestManyThatWereAddedComeBack(t *testing.T) { // P10.2
	var l []api.Nat
	for i := range 500 {
		l = append(l, mixed(i%255))
	}
	all, e := Add(l...)
	for i, a := range l {
		if e != api.OK {
			t.Fatal(i, int(e))
		}
		all, e = Sub(all, a)
	}
	if e != api.OK || !Same(all, nil) {
		t.Errorf("%s is left, %d", short(all), int(e))
	}
}

func TestTakenAwayComesBack(t *testing.T) { // P10.2: by Add; and what Cmp calls less can't be taken from
	for _, a := range rights() {
		for _, b := range rights() {
			rest, e := Sub(a, b)
			if low := Cmp(a, b) < 0; low != (e == api.ErrLow) || low == (e == api.OK) {
				t.Errorf("Sub(%s, %s): %d, Cmp: %d", short(a), short(b), int(e), Cmp(a, b))
			}
			if e != api.OK {
				continue
			}
			if back, f := Add(rest, b); f != api.OK || !Same(back, a) {
				t.Errorf("Sub(%s, %s) comes back as %s, %d", short(a), short(b), short(back), int(f))
			}
		}
	}
}

func TestDividedComesBack(t *testing.T) { // P10.2
	may, _ := divisors()
	for _, a := range rights() {
		for _, d := range may {
			times, left, e := Div(a, d)
			product, e1 := Mul(times, Of(d))
			back, e2 := Add(product, Of(left))
			if e != api.OK || e1 != api.OK || e2 != api.OK || left >= d || !Same(back, a) {
				t.Errorf("Div(%s, %d), %d left, comes back as %s, %d, %d, %d", short(a), d, left, short(back), int(e), int(e1), int(e2))
			}
		}
	}
}

func TestMultipliedComesBack(t *testing.T) { // P10.2: by Div
	may, _ := divisors()
	for _, a := range rights() {
		for _, d := range may {
			product, e := Mul(a, Of(d))
			if e != api.OK {
				continue
			}
			if times, left, f := Div(product, d); f != api.OK || left != 0 || !Same(times, a) {
				t.Errorf("Mul(%s, %d) comes back as %s, %d, %d", short(a), d, short(times), left, int(f))
			}
		}
	}
}

// orders hands all orders of l to each.
func orders(l []api.Nat, from int, each func(l []api.Nat)) {
	if from == len(l) {
		each(slices.Clone(l))
		return
	}
	for i := from; i < len(l); i++ {
		l[from], l[i] = l[i], l[from]
		orders(l, from+1, each)
		l[from], l[i] = l[i], l[from]
	}
}

func TestOrder(t *testing.T) { // P10.2: of Add always; of Mul, where there is no 0 that may come too late
	top, half := same(most, 256), append(make(api.Nat, 127), 1<<31)
	for _, l := range [][]api.Nat{
		{{1}, {2}}, {{1}, {most}, {0, 1}, {5, 7}}, {mixed(3), mixed(5), mixed(40), {9}, mixed(100)}, {mixed(50), mixed(51), mixed(52), mixed(53), mixed(49)}, {mixed(50), mixed(51), mixed(52), mixed(53), mixed(54)},
		{half, half, {2}, {1}}, {half, half, {2}, {2}}, {same(most, 128), same(most, 128), {1}}, {above(0, 127), above(0, 100), above(5, 28), {most}}, {top, {1}, {1}}, {top, {2}, {1}}, {top, top, {1}}, {mixed(256), mixed(256), mixed(2)},
	} {
		sum, e := Add(l...)
		product, f := Mul(l...)
		orders(l, 0, func(other []api.Nat) {
			if got, e1 := Add(other...); e1 != e || !Same(got, sum) {
				t.Errorf("Add of%s: %s, %d, want %s, %d", shorts(other), short(got), int(e1), short(sum), int(e))
			}
			if got, f1 := Mul(other...); f1 != f || !Same(got, product) {
				t.Errorf("Mul of%s: %s, %d, want %s, %d", shorts(other), short(got), int(f1), short(product), int(f))
			}
		})
	}
}

func TestOrderWithNothing(t *testing.T) { // P10.2: 0 changes no sum, and makes each product 0 whose numbers fit
	for _, l := range [][]api.Nat{{nil}, {nil, nil, {3}}, {nil, {most}, {0, 1}, {7}}, {nil, mixed(100), mixed(100), mixed(56)}, {nil, same(most, 255), {most}}} {
		sum, e := Add(l[1:]...)
		orders(l, 0, func(other []api.Nat) {
			if got, e1 := Add(other...); e1 != e || !Same(got, sum) {
				t.Errorf("Add of%s: %s, %d", shorts(other), short(got), int(e1))
			}
			if got, f := Mul(other...); f != api.OK || !Same(got, nil) {
				t.Errorf("Mul of%s: %s, %d", shorts(other), short(got), int(f))
			}
		})
	}
}

func TestInPieces(t *testing.T) { // P10.2: all at once as some first, then the others
	l := []api.Nat{{3}, mixed(7), {most}, mixed(60), above(1, 20), same(most, 33), {0, 1}}
	sum, _ := Add(l...)
	product, e := Mul(l...)
	if e != api.OK {
		t.Fatal(int(e))
	}
	for cut := range len(l) + 1 {
		a, _ := Add(l[:cut]...)
		b, _ := Add(l[cut:]...)
		c, _ := Mul(l[:cut]...)
		d, _ := Mul(l[cut:]...)
		both, e := Add(a, b)
		times, f := Mul(c, d)
		if e != api.OK || f != api.OK || !Same(both, sum) || !Same(times, product) {
			t.Errorf("cut at %d: %s, %d, and %s, %d", cut, short(both), int(e), short(times), int(f))
		}
	}
}

func TestPartsTimesTheSame(t *testing.T) { // P10.2: a sum's product is the products' sum
	for _, a := range rights() {
		for _, b := range rights() {
			c := mixed(20)
			sum, e := Add(a, b)
			if e != api.OK {
				continue
			}
			whole, e := Mul(sum, c)
			if e != api.OK {
				continue
			}
			first, e1 := Mul(a, c)
			second, e2 := Mul(b, c)
			both, e3 := Add(first, second)
			if e1 != api.OK || e2 != api.OK || e3 != api.OK || !Same(both, whole) {
				t.Errorf("%s and %s: %d, %d, %d, %s, want %s", short(a), short(b), int(e1), int(e2), int(e3), short(both), short(whole))
			}
		}
	}
}

func TestPowersAsProducts(t *testing.T) { // P10.2: two powers' product is the power of both exponents; Two is a power of 2
	for _, a := range []api.Nat{nil, {1}, {2}, {10}, {most}, mixed(3), above(0, 3)} {
		for i := range 33 {
			for j := range 33 {
				first, _ := Pow(a, i)
				second, _ := Pow(a, j)
				product, e := Mul(first, second)
				if want, f := Pow(a, i+j); e != api.OK || f != api.OK || !Same(product, want) {
					t.Errorf("%s to the %d and %d: %s, %d, want %s, %d", short(a), i, j, short(product), int(e), short(want), int(f))
				}
			}
		}
	}
	for k := range 128 {
		base, _ := Two(k)
		for m := range 64 {
			got, e := Pow(base, m)
			if want, f := Two(k * m); e != api.OK || f != api.OK || !Same(got, want) {
				t.Errorf("2 to the %d, to the %d: %s, %d", k, m, short(got), int(e))
			}
		}
	}
}
