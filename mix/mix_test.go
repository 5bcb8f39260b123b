package mix

import (
	"crypto/sha256"
	"encoding/binary"
	"encoding/hex"
	"math"
	"slices"
	"testing"

	"drawlot/api"
)

// epochs are numbers about every power of two, the least ones, the greatest ones, and one whose bytes are unlike.
func epochs() []uint64 {
	l := []uint64{0, 1, 2, 3, 258, 0x0102030405060708, 0xfedcba9876543210, math.MaxUint64 - 1, math.MaxUint64}
	for i := 2; i < 64; i++ {
		l = append(l, 1<<i-1, 1<<i, 1<<i+1)
	}
	return l
}

// filled is the hash that has this byte everywhere.
func filled(b byte) api.Hash {
	var h api.Hash
	for i := range h {
		h[i] = b
	}
	return h
}

// rising is the hash of the bytes 0 to 31, falling that of 255 to 224.
func rising() api.Hash {
	var h api.Hash
	for i := range h {
		h[i] = byte(i)
	}
	return h
}

func falling() api.Hash {
	h := rising()
	for i := range h {
		h[i] = 255 - h[i]
	}
	return h
}

// flipped is h with its bit of that number, of 256, turned round.
func flipped(h api.Hash, bit int) api.Hash {
	h[bit/8] ^= 128 >> (bit % 8)
	return h
}

// values are so many that are unlike, with bytes of all kinds.
func values(count int) []api.Hash {
	l := make([]api.Hash, count)
	x := uint64(count)
	for i := range l {
		for j := range l[i] {
			x = x*6364136223846793005 + 1442695040888963407
			l[i][j] = byte(x >> 40)
		}
	}
	return l
}

// few are values with noughts, bytes that are full, bits that stand alone, and others among them.
func few() []api.Hash {
	return append(values(3), api.Hash{}, filled(255), rising(), falling(), flipped(api.Hash{}, 0), flipped(api.Hash{}, 255), filled(1), filled(128), flipped(rising(), 77))
}

// odd is the chapter's mix, reckoned otherwise: a bit is set just if an odd number of values has it.
func odd(l []api.Hash) api.Hash {
	var h api.Hash
	for bit := range 256 {
		place, mask := bit/8, byte(1)<<(bit%8)
		count := 0
		for i := range l {
			if l[i][place]&mask != 0 {
				count++
			}
		}
		if count%2 == 1 {
			h[place] |= mask
		}
	}
	return h
}

// hashed is the hash of these bytes, by the library.
func hashed(b []byte) api.Hash { return sha256.Sum256(b) }

// seeded is the chapter's words of a seed, in one list.
func seeded(seed api.Hash, epoch uint64, mix api.Hash) api.Hash {
	b := slices.Clone(seed[:])
	b = binary.BigEndian.AppendUint64(b, epoch)
	return hashed(append(b, mix[:]...))
}

// parsed is the hash of that text.
func parsed(t *testing.T, text string) api.Hash {
	t.Helper()
	b, err := hex.DecodeString(text)
	if err != nil || len(b) != 32 {
		t.Fatalf("%q is no hash's text", text)
	}
	return api.Hash(b)
}

// guarded is a copy of l with other values ahead of it, and room behind it; the second result tells if all of them are as they were.
func guarded(l []api.Hash) ([]api.Hash, func() bool) {
	all := slices.Concat([]api.Hash{filled(0xa5), rising()}, l, []api.Hash{falling(), filled(0x5a), rising()})
	was := slices.Clone(all)
	return all[2 : 2+len(l)], func() bool { return slices.Equal(all, was) }
}

// check holds the mix of l against want, and l against what it was, its spare room too.
func check(t *testing.T, name string, l []api.Hash, want api.Hash) {
	t.Helper()
	in, kept := guarded(l)
	if got := Xor(in...); got != want {
		t.Errorf("%s: the mix of %d values: %x, want %x", name, len(l), got, want)
	}
	if !kept() {
		t.Errorf("%s: what was handed in has changed", name)
	}
}

// orders are all of a list's orders, each handed to each.
func orders(l []api.Hash, each func(l []api.Hash)) {
	var from func(i int)
	from = func(i int) {
		if i == len(l) {
			each(l)
			return
		}
		for j := i; j < len(l); j++ {
			l[i], l[j] = l[j], l[i]
			from(i + 1)
			l[i], l[j] = l[j], l[i]
		}
	}
	from(0)
}

// shuffled is a copy of l in another order, which seed tells.
func shuffled(l []api.Hash, seed uint64) []api.Hash {
	out := slices.Clone(l)
	for i := len(out) - 1; i > 0; i-- {
		seed = seed*6364136223846793005 + 1442695040888963407
		j := int(seed >> 33 % uint64(i+1))
		out[i], out[j] = out[j], out[i]
	}
	return out
}

func TestXorOfNone(t *testing.T) { // P18.1
	if got := Xor(); got != (api.Hash{}) {
		t.Errorf("of no values: %x", got)
	}
	check(t, "nil", nil, api.Hash{})
	if got := Xor(nil...); got != (api.Hash{}) {
		t.Errorf("of a list that is nil: %x", got)
	}
	if got := Xor([]api.Hash{}...); got != (api.Hash{}) {
		t.Errorf("of an empty list: %x", got)
	}
}

func TestXorOfOne(t *testing.T) { // P18.1: the chapter's example
	for bit := range 256 {
		h := flipped(api.Hash{}, bit)
		check(t, "one bit", []api.Hash{h}, h)
		h = flipped(filled(255), bit)
		check(t, "all but one bit", []api.Hash{h}, h)
	}
	for _, h := range append(few(), values(50)...) {
		check(t, "one value", []api.Hash{h}, h)
		if got := Xor(h); got != h {
			t.Errorf("Xor(%x) = %x", h, got)
		}
	}
}

func TestXorByHand(t *testing.T) { // P18.1
	for i, c := range []struct {
		l    []api.Hash
		want api.Hash
	}{
		{[]api.Hash{filled(0), filled(0)}, filled(0)},
		{[]api.Hash{filled(1), filled(2)}, filled(3)},
		{[]api.Hash{filled(3), filled(1)}, filled(2)},
		// A sum would run from byte to byte, or be 254; an inclusive or would be 255.
		{[]api.Hash{filled(255), filled(1)}, filled(254)},
		{[]api.Hash{filled(255), filled(255)}, filled(0)},
		{[]api.Hash{filled(128), filled(128), filled(1)}, filled(1)},
		{[]api.Hash{filled(0xf0), filled(0x0f)}, filled(255)},
		{[]api.Hash{filled(0x5a), filled(0x3c), filled(0x0f)}, filled(0x69)},
		{[]api.Hash{filled(1), filled(2), filled(4), filled(8), filled(16)}, filled(31)},
		{[]api.Hash{rising(), falling()}, filled(255)},
		{[]api.Hash{rising(), filled(255)}, falling()},
		{[]api.Hash{falling(), rising(), filled(255)}, filled(0)},
		{[]api.Hash{{5}, {31: 9}, {15: 7, 16: 8}}, api.Hash{0: 5, 15: 7, 16: 8, 31: 9}},
		{[]api.Hash{{1, 2, 3}, {3, 2, 1}}, api.Hash{2, 0, 2}},
	} {
		if got := Xor(c.l...); got != c.want {
			t.Errorf("%d: %x, want %x", i, got, c.want)
		}
		check(t, "by hand", c.l, c.want)
	}
	if got := Xor(filled(7), rising(), filled(7)); got != rising() {
		t.Errorf("%x", got)
	}
}

func TestEachPairOfBytes(t *testing.T) { // P18.1
	for x := range 256 {
		for y := range 256 {
			a, b := filled(byte(x)), filled(byte(y))
			want := 0
			for bit := 1; bit < 256; bit *= 2 {
				if x/bit%2 != y/bit%2 {
					want += bit
				}
			}
			if got := Xor(a, b); got != filled(byte(want)) {
				t.Fatalf("of %d and %d: %x, want %d", x, y, got, want)
			}
		}
	}
}

func TestOneBitAlone(t *testing.T) { // P18.1: of two values that differ in one bit just that bit is left
	for _, h := range few() {
		for bit := range 256 {
			want := flipped(api.Hash{}, bit)
			check(t, "one bit", []api.Hash{h, flipped(h, bit)}, want)
			check(t, "one bit", []api.Hash{flipped(h, bit), h}, want)
			check(t, "one bit beside another value", []api.Hash{h, rising(), flipped(h, bit)}, flipped(rising(), bit))
		}
	}
}

func TestNoughts(t *testing.T) { // P18.1: noughts change nothing, wherever and however many they are
	for count := range 6 {
		l := values(count)
		want := odd(l)
		for noughts := range 4 {
			for at := range count + 1 {
				check(t, "noughts", slices.Insert(slices.Clone(l), at, make([]api.Hash, noughts)...), want)
			}
		}
	}
	check(t, "noughts alone", make([]api.Hash, 1000), api.Hash{})
}

func TestTheSameAgain(t *testing.T) { // P18.1, P18.2: of a value so many times it is left, if that is odd, else noughts
	for _, h := range few() {
		for count := range 70 {
			want := api.Hash{}
			if count%2 == 1 {
				want = h
			}
			check(t, "the same", slices.Repeat([]api.Hash{h}, count), want)
			check(t, "the same behind another one", append([]api.Hash{rising()}, slices.Repeat([]api.Hash{h}, count)...), odd([]api.Hash{rising(), want}))
		}
	}
}

func TestXorOfMany(t *testing.T) { // P18.1
	for count := range 300 {
		l := values(count)
		check(t, "many", l, odd(l))
	}
	for _, count := range []int{1000, 1<<12 - 1, 1 << 12, 1<<16 + 1} {
		l := values(count)
		check(t, "many", l, odd(l))
	}
}

func TestEachCounts(t *testing.T) { // P18.1: whichever value of a list is another one, the mix shows it
	l := values(40)
	mix := Xor(l...)
	for i := range l {
		for bit := range 256 {
			other := slices.Clone(l)
			other[i] = flipped(other[i], bit)
			if got := Xor(other...); got != flipped(mix, bit) {
				t.Fatalf("the bit %d of the value %d: %x, want %x", bit, i, got, flipped(mix, bit))
			}
		}
	}
}

func TestXorOfAsManyAsValidators(t *testing.T) { // P18.1
	l := values(api.MaxVals + 1)
	// Number by number, since bits counted one by one would take long.
	var want [4]uint64
	for i := range l {
		for k := range want {
			want[k] ^= binary.LittleEndian.Uint64(l[i][8*k:])
		}
	}
	var h api.Hash
	for k, x := range want {
		binary.LittleEndian.PutUint64(h[8*k:], x)
	}
	check(t, "as many as validators", l, h)
}

func TestEachOrder(t *testing.T) { // P18.2
	same := []api.Hash{rising(), filled(9), rising(), {}, rising()}
	for _, l := range [][]api.Hash{nil, values(1), values(2), values(3), values(4), values(5), values(6), values(7), same} {
		want := odd(l)
		orders(slices.Clone(l), func(order []api.Hash) { check(t, "another order", order, want) })
	}
}

func TestManyOrders(t *testing.T) { // P18.2
	for _, count := range []int{2, 9, 32, 33, 257, 2000} {
		l := values(count)
		want := odd(l)
		backwards := slices.Clone(l)
		slices.Reverse(backwards)
		check(t, "backwards", backwards, want)
		for seed := range uint64(20) {
			check(t, "shuffled", shuffled(l, seed), want)
			cut := int(seed) * count / 20
			check(t, "turned", slices.Concat(l[cut:], l[:cut]), want)
		}
	}
}

func TestInPieces(t *testing.T) { // P18.2: a mix goes on from the mix of what came ahead, and mixes are mixed
	for _, count := range []int{0, 1, 2, 3, 8, 25} {
		l := values(count)
		want := odd(l)
		for i := range count + 1 {
			for j := i; j <= count; j++ {
				check(t, "three pieces", []api.Hash{Xor(l[:i]...), Xor(l[i:j]...), Xor(l[j:]...)}, want)
				check(t, "a piece within", slices.Concat(l[:i], []api.Hash{Xor(l[i:j]...)}, l[j:]), want)
			}
		}
		var one api.Hash
		for _, h := range l {
			one = Xor(one, h)
		}
		if one != want {
			t.Errorf("%d values one by one: %x, want %x", count, one, want)
		}
	}
}

func TestEachChoice(t *testing.T) { // P18.2: of each choice of ten values, mixed with that of the others, all are mixed
	l := values(10)
	want := odd(l)
	for choice := range 1 << len(l) {
		var some, others []api.Hash
		for i, h := range l {
			if choice>>i%2 == 1 {
				some = append(some, h)
			} else {
				others = append(others, h)
			}
		}
		check(t, "a choice", some, odd(some))
		if got := Xor(Xor(others...), Xor(some...)); got != want {
			t.Errorf("the choice %b: %x, want %x", choice, got, want)
		}
	}
}

func TestTwoCancel(t *testing.T) { // P18.2: wherever the two stand
	for _, h := range few() {
		for count := range 9 {
			l := values(count)
			want := odd(l)
			for i := range count + 1 {
				for j := range count + 2 {
					both := slices.Insert(slices.Insert(slices.Clone(l), i, h), j, h)
					check(t, "two that are the same", both, want)
				}
			}
		}
	}
}

func TestOneOfThemAgain(t *testing.T) { // P18.2: a value that comes again takes itself away, and once more brings itself back
	l := values(30)
	for i, h := range l {
		without := odd(slices.Delete(slices.Clone(l), i, i+1))
		for j := range len(l) + 1 {
			check(t, "again", slices.Insert(slices.Clone(l), j, h), without)
			check(t, "once more", slices.Insert(slices.Clone(l), j, h, h), odd(l))
		}
	}
}

func TestAllTwice(t *testing.T) { // P18.2
	for _, count := range []int{0, 1, 2, 50, 333} {
		l := values(count)
		check(t, "twice", slices.Concat(l, l), api.Hash{})
		for seed := range uint64(5) {
			check(t, "twice, shuffled", shuffled(slices.Concat(l, l), seed), api.Hash{})
			check(t, "three times, shuffled", shuffled(slices.Concat(l, l, l), seed), odd(l))
		}
	}
}

func TestCommitmentByHand(t *testing.T) { // P18.1
	for text, value := range map[string]api.Hash{
		"66687aadf862bd776c8fc18b8e9f8e20089714856ee233b3902a591d0d5f2925": {},
		"af9613760f72635fbdb44a5a0a63c39f12af30f950a6ee5c971be188e89c4051": filled(255),
		"630dcd2966c4336691125448bbb25b4ff412a49c732db2c8abc1b8581bd710dd": rising(),
		"1865c00831e73f7ee23fc13cb2d0f588b9c341835ca7472f8ec035aba4b789d6": falling(),
	} {
		if got := Commitment(value); got != parsed(t, text) {
			t.Errorf("Commitment(%x) = %x, want %s", value, got, text)
		}
	}
}

func TestCommitments(t *testing.T) { // P18.1
	for _, value := range append(few(), values(500)...) {
		was := value
		if got, want := Commitment(value), hashed(value[:]); got != want {
			t.Errorf("Commitment(%x) = %x, want %x", value, got, want)
		}
		if value != was {
			t.Error("what was handed in has changed")
		}
	}
}

func TestCommitmentsOfOneBit(t *testing.T) { // P18.1: values that differ in one bit alone have unlike commitments
	for _, h := range few()[:6] {
		seen := map[api.Hash]int{Commitment(h): -1}
		for bit := range 256 {
			value := flipped(h, bit)
			got := Commitment(value)
			if want := hashed(value[:]); got != want {
				t.Errorf("Commitment(%x) = %x, want %x", value, got, want)
			}
			if other, ok := seen[got]; ok {
				t.Errorf("the bits %d and %d of %x have one commitment", bit, other, h)
			}
			seen[got] = bit
		}
	}
}

func TestSeedByHand(t *testing.T) { // P18.1
	for _, c := range []struct {
		seed  api.Hash
		epoch uint64
		mix   api.Hash
		want  string
	}{
		{api.Hash{}, 0, api.Hash{}, "834a709ba2534ebe3ee1397fd4f7bd288b2acc1d20a08d6c862dcd99b6f04400"},
		{api.Hash{}, 1, api.Hash{}, "f82db6e0de46a257154926d5afb61585e77eab5df7f4c552ddb8cce2ea7e0d9a"},
		{rising(), 0, falling(), "f8c2d12b9f448fa1026c595573d1ed399582ac96b33d8e47d6e19e00ef294ae7"},
		{rising(), 1, falling(), "cad65a08d8d288410b9361d2536c131b20ccb734e7a7f378056e4d39b781d8b0"},
		{rising(), 258, falling(), "2acbf8534e0e40db52425ce664f9448eeefb2ae9c1281c6cc611eb8c7b1acb98"},
		{rising(), 1 << 32, falling(), "35d6801a109d9ae2ffc3ab1d0f36033904521b1d51e58bf28753dc2466f3363f"},
		{rising(), 1 << 63, falling(), "e42ea455aa126bdbc3adc191de6d0872060b3a19dd0be96efd34c94a6590ed75"},
		{rising(), math.MaxUint64, falling(), "54063972f676f4a66fc36cbdbaafe35a1007d1a6d404077b369c486a21894bdb"},
		{rising(), 0x0102030405060708, falling(), "7b547d50968529b915694bf776c99d1322e52e5f4a9be903f05c91d584451df5"},
	} {
		if got := Seed(c.seed, c.epoch, c.mix); got != parsed(t, c.want) {
			t.Errorf("Seed(%x, %d, %x) = %x, want %s", c.seed, c.epoch, c.mix, got, c.want)
		}
	}
}

func TestSeedOfEachEpoch(t *testing.T) { // P18.1
	l := append(few(), values(4)...)
	for _, epoch := range epochs() {
		for i, seed := range l {
			mix := l[(i+5)%len(l)]
			wasSeed, wasMix := seed, mix
			if got, want := Seed(seed, epoch, mix), seeded(seed, epoch, mix); got != want {
				t.Errorf("Seed(%x, %d, %x) = %x, want %x", seed, epoch, mix, got, want)
			}
			if seed != wasSeed || mix != wasMix {
				t.Error("what was handed in has changed")
			}
		}
	}
}

func TestSeedOfSmallEpochs(t *testing.T) { // P18.1
	seed, mix := rising(), filled(0xc3)
	for epoch := range uint64(3000) {
		if got, want := Seed(seed, epoch, mix), seeded(seed, epoch, mix); got != want {
			t.Errorf("Seed of the epoch %d: %x, want %x", epoch, got, want)
		}
	}
}

func TestSeedsOfEachPair(t *testing.T) { // P18.1: the seed ahead, and the mix, each in its place
	l := append(few(), values(8)...)
	for _, seed := range l {
		for _, mix := range l {
			if got, want := Seed(seed, 7, mix), seeded(seed, 7, mix); got != want {
				t.Errorf("Seed(%x, 7, %x) = %x, want %x", seed, mix, got, want)
			}
		}
	}
}

func TestSeedsOfOneBit(t *testing.T) { // P18.1: each bit of the seed ahead, of the number and of the mix counts
	seed, mix, epoch := rising(), falling(), uint64(0x0102030405060708)
	seen := map[api.Hash]int{Seed(seed, epoch, mix): -1}
	for bit := range 256 + 64 + 256 {
		s, n, m := seed, epoch, mix
		switch {
		case bit < 256:
			s = flipped(s, bit)
		case bit < 256+64:
			n ^= 1 << (bit - 256)
		default:
			m = flipped(m, bit-256-64)
		}
		got := Seed(s, n, m)
		if want := seeded(s, n, m); got != want {
			t.Errorf("Seed(%x, %d, %x) = %x, want %x", s, n, m, got, want)
		}
		if other, ok := seen[got]; ok {
			t.Errorf("the bits %d and %d have one seed", bit, other)
		}
		seen[got] = bit
	}
}

func TestSeedOfAMix(t *testing.T) { // P18.1, P18.2: seed behind seed, of mixes in whatever order
	seed, want := api.Hash{}, api.Hash{}
	for epoch := range uint64(60) {
		l := values(int(epoch))
		seed = Seed(seed, epoch, Xor(shuffled(l, epoch)...))
		want = seeded(want, epoch, odd(l))
		if seed != want {
			t.Fatalf("the epoch %d: %x, want %x", epoch, seed, want)
		}
	}
}

func TestAskedAgain(t *testing.T) { // P18.1: nothing is kept from call to call
	l := values(20)
	mix, commitment, seed := Xor(l...), Commitment(l[0]), Seed(l[0], 5, l[1])
	Xor(l[3:9]...)
	Commitment(l[7])
	Seed(l[9], 6, l[8])
	if Xor(l...) != mix || Commitment(l[0]) != commitment || Seed(l[0], 5, l[1]) != seed {
		t.Error("asked again, a call answers otherwise")
	}
}

func TestNewMemory(t *testing.T) { // P18.1: who writes into what was answered, or into what was handed in, changes nothing of the other
	l := values(1)
	was := l[0]
	h := Xor(l...)
	h[0] ^= 255
	if l[0] != was {
		t.Error("what was handed in changed with the answer")
	}
	h = Xor(l...)
	l[0][0] ^= 255
	if h != was {
		t.Error("the answer changed with what was handed in")
	}
}
