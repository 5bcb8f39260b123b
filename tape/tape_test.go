package tape

import (
	"bytes"
	"crypto/sha256"
	"encoding/binary"
	"fmt"
	"math"
	"strconv"
	"strings"
	"testing"

	"drawlot/api"
)

// streamEnd is the number behind the last one of a stream's bits.
const streamEnd = 1 << 62

// message is n bytes that are unlike where they stand, so that a lost, doubled or misplaced one shows.
func message(n int) []byte {
	b := make([]byte, n)
	for i := range b {
		b[i] = byte(i*37 + i/256 + 0xb0)
	}
	return b
}

// seeds are noughts, bytes that are unlike where they stand, and a hash.
func seeds() []api.Hash {
	var noughts, counted api.Hash
	for i := range counted {
		counted[i] = byte(i + 1)
	}
	return []api.Hash{noughts, counted, sha256.Sum256([]byte("seed"))}
}

func tapeAt(b []byte, bits, at uint64) api.Source {
	return api.Source{Kind: api.SrcTape, Tape: b, Bits: bits, At: at}
}

func streamAt(seed api.Hash, domain, at uint64) api.Source {
	return api.Source{Kind: api.SrcStream, Seed: seed, Domain: domain, At: at}
}

// alike holds two sources against each other without the package's own call; a tape that holds nothing may be nil.
func alike(a, b api.Source) bool {
	return a.Kind == b.Kind && string(a.Tape) == string(b.Tape) && a.Bits == b.Bits && a.Seed == b.Seed && a.Domain == b.Domain && a.At == b.At
}

func isZero(s api.Source) bool { return alike(s, api.Source{}) }

// digits is the bytes as text, each as eight digits.
func digits(b []byte) string {
	var text strings.Builder
	for _, c := range b {
		fmt.Fprintf(&text, "%08b", c)
	}
	return text.String()
}

// blockDigits is the i-th block of a stream as text, by the library's hash.
func blockDigits(seed api.Hash, domain, i uint64) string {
	b := append([]byte(nil), seed[:]...)
	b = binary.BigEndian.AppendUint64(b, domain)
	b = binary.BigEndian.AppendUint64(b, i)
	h := sha256.Sum256(b)
	return digits(h[:])
}

// ahead is the chapter's words of the next k bits of a source that has them, as text.
func ahead(s api.Source, k int) string {
	if s.Kind == api.SrcTape {
		return digits(s.Tape)[s.At:][:k]
	}
	i := s.At / 256
	return (blockDigits(s.Seed, s.Domain, i) + blockDigits(s.Seed, s.Domain, i+1))[s.At%256:][:k]
}

// number is the one that digits stand for; 0 of none.
func number(t *testing.T, text string) uint64 {
	t.Helper()
	if text == "" {
		return 0
	}
	x, err := strconv.ParseUint(text, 2, 64)
	if err != nil {
		t.Fatal(err)
	}
	return x
}

// mustTake takes k bits, which there must be.
func mustTake(t *testing.T, s api.Source, k int) (uint64, api.Source) {
	t.Helper()
	x, next, e := Take(s, k)
	if e != api.OK {
		t.Fatalf("Take(%v, %d): %v (%d)", s, k, e, int(e))
	}
	return x, next
}

// checkTake holds what is taken against the chapter's words.
func checkTake(t *testing.T, s api.Source, k int) {
	t.Helper()
	want, behind := number(t, ahead(s, k)), s
	behind.At += uint64(k)
	if x, next, e := Take(s, k); x != want || !alike(next, behind) || e != api.OK {
		t.Errorf("Take(%v, %d) = %#x, %v, %d, want %#x, %v, 0", s, k, x, next, int(e), want, behind)
	}
}

// checkRefused holds that nothing is taken, and that the source comes back as it was.
func checkRefused(t *testing.T, s api.Source, k int, want api.Errno) {
	t.Helper()
	if x, next, e := Take(s, k); x != 0 || !alike(next, s) || e != want {
		t.Errorf("Take(%v, %d) = %#x, %v, %d, want 0, the same, %d", s, k, x, next, int(e), int(want))
	}
}

// wrongCounts are those that nobody may take: below 0, above 64, and some whose lowest bits alone would do.
func wrongCounts() []int {
	return []int{-1, -2, -8, -64, -65, math.MinInt32, math.MinInt, math.MinInt + 1, 65, 66, 72, 128, 255, 256, 257, 1<<16 + 1, 1<<32 - 1, 1 << 32, 1<<32 + 1, math.MaxInt - 63, math.MaxInt}
}

// oddKinds are of no source; of some the lowest bits alone are a kind's.
func oddKinds() []int {
	return []int{0, 3, 4, -1, -2, 1<<8 + 1, 1<<8 + 2, 1<<16 + 1, 1<<32 + 1, 1<<32 + 2, math.MinInt, math.MinInt + 1, math.MinInt + 2, math.MaxInt}
}

// wrongSources are sources that may not be, for each reason that there is.
func wrongSources() []api.Source {
	b := message(3)
	l := []api.Source{
		{},
		tapeAt(nil, 1, 0), tapeAt([]byte{}, 1, 1), tapeAt(nil, math.MaxUint64, 0), tapeAt(nil, 0, 1), tapeAt(nil, 0, math.MaxUint64),
		tapeAt(b, 25, 0), tapeAt(b, 25, 25), tapeAt(b, 32, 3), tapeAt(b, 1<<61+24, 0), tapeAt(b, 1<<63, 0), tapeAt(b, math.MaxUint64, 0), tapeAt(b, math.MaxUint64, math.MaxUint64),
		tapeAt(b, 24, 25), tapeAt(b, 20, 21), tapeAt(b, 20, 24), tapeAt(b, 0, 1), tapeAt(b, 24, 1<<62), tapeAt(b, 24, 1<<63), tapeAt(b, 24, math.MaxUint64),
	}
	for _, at := range []uint64{streamEnd + 1, streamEnd + 2, 1<<62 + 1<<32, 1 << 63, 1<<63 + 1, math.MaxUint64 - 63, math.MaxUint64} {
		l = append(l, streamAt(seeds()[1], 9, at))
		// What a tape has of bits is none of a stream's.
		l = append(l, api.Source{Kind: api.SrcStream, Tape: b, Bits: math.MaxUint64, At: at})
	}
	for _, kind := range oddKinds() {
		l = append(l, api.Source{Kind: kind}, api.Source{Kind: kind, Tape: b, Bits: 24, Seed: seeds()[1], Domain: 9, At: 3})
	}
	return l
}

// rightSources are sources that may be: at their beginnings, ends, and between.
func rightSources() []api.Source {
	b := message(30)
	l := []api.Source{tapeAt(nil, 0, 0), tapeAt([]byte{}, 0, 0), tapeAt(b, 0, 0)}
	for _, bits := range []uint64{1, 7, 8, 9, 63, 64, 65, 233, 239, 240} {
		for _, at := range []uint64{0, 1, bits / 2, bits - 1, bits} {
			l = append(l, tapeAt(b, bits, at))
		}
	}
	for i, at := range []uint64{0, 1, 7, 8, 100, 191, 192, 193, 199, 248, 255, 256, 257, 511, 512, 1<<32 - 1, 1 << 32, 1<<40 - 7, 1<<61 - 33, streamEnd - 257, streamEnd - 256, streamEnd - 65, streamEnd - 64, streamEnd - 63, streamEnd - 2, streamEnd - 1, streamEnd} {
		l = append(l, streamAt(seeds()[i%3], []uint64{0, 9, 1<<32 + 2, math.MaxUint64}[i%4], at))
	}
	return l
}

// leftOf is how many bits a source that may be has left.
func leftOf(s api.Source) uint64 {
	if s.Kind == api.SrcTape {
		return s.Bits - s.At
	}
	return streamEnd - s.At
}

// withOthers is s with other values in all fields that don't count for its kind, such as would forbid the other kind.
func withOthers(s api.Source) api.Source {
	if s.Kind == api.SrcTape {
		s.Seed, s.Domain = seeds()[2], math.MaxUint64
		return s
	}
	s.Tape, s.Bits = message(2), math.MaxUint64
	return s
}

func TestRightOfEachTape(t *testing.T) { // P7.1
	for n := range 5 {
		for bits := range uint64(8*n + 18) {
			for at := range bits + 3 {
				want := bits <= uint64(8*n) && at <= bits
				if got := Right(tapeAt(message(n), bits, at)); got != want {
					t.Errorf("%d bytes, %d bits, at %d: %v, want %v", n, bits, at, got, want)
				}
			}
		}
	}
}

func TestRightByHand(t *testing.T) { // P7.1
	b := []byte{1, 2, 3}
	seed := api.Hash{7}
	for i, c := range []struct {
		s    api.Source
		want bool
	}{
		{tapeAt(b, 24, 0), true},
		{tapeAt(b, 24, 24), true},
		{tapeAt(b, 25, 0), false},
		{tapeAt(b, 24, 25), false},
		{tapeAt(b, 5, 5), true},
		{tapeAt(b, 5, 6), false},
		{tapeAt(nil, 0, 0), true},
		{tapeAt(nil, 0, 1), false},
		{streamAt(seed, 9, 0), true},
		{streamAt(seed, 9, 1<<62-1), true},
		{streamAt(seed, 9, 1<<62), true},
		{streamAt(seed, 9, 1<<62+1), false},
		{streamAt(seed, 9, math.MaxUint64), false},
		{api.Source{}, false},
		{api.Source{Kind: 1}, true},
		{api.Source{Kind: 2}, true},
		{api.Source{Kind: 3}, false},
	} {
		if got := Right(c.s); got != c.want {
			t.Errorf("%d: Right(%v) = %v", i, c.s, got)
		}
	}
}

func TestRightOfMany(t *testing.T) { // P7.1
	for i, s := range rightSources() {
		if !Right(s) {
			t.Errorf("%d: %v may be", i, s)
		}
		if !Right(withOthers(s)) {
			t.Errorf("%d: of %v a field counts that doesn't", i, s)
		}
	}
	for i, s := range wrongSources() {
		if Right(s) {
			t.Errorf("%d: %v may not be", i, s)
		}
	}
}

func TestTapeOfEachNumberOfBits(t *testing.T) { // P7.1
	for n := range 40 {
		b := message(n)
		for bits := range uint64(8*n + 1) {
			if s, e := Tape(b, bits); e != api.OK || !alike(s, tapeAt(b, bits, 0)) || !Right(s) || Left(s) != bits {
				t.Errorf("%d bytes, %d bits: %v, %d", n, bits, s, int(e))
			}
		}
		for _, more := range []uint64{1, 2, 7, 8, 9, 64, 1 << 32, 1 << 61, 1 << 62, 1 << 63} {
			if s, e := Tape(b, uint64(8*n)+more); e != api.ErrArg || !isZero(s) {
				t.Errorf("%d bytes, %d bits more than they have: %v, %d", n, more, s, int(e))
			}
		}
		if s, e := Tape(b, math.MaxUint64); e != api.ErrArg || !isZero(s) {
			t.Errorf("%d bytes, all bits: %v, %d", n, s, int(e))
		}
	}
}

func TestTapeOfNoBytes(t *testing.T) { // P7.1
	for _, b := range [][]byte{nil, {}, make([]byte, 0, 100)} {
		s, e := Tape(b, 0)
		if e != api.OK || !alike(s, tapeAt(nil, 0, 0)) || !Right(s) || Left(s) != 0 {
			t.Errorf("no bits: %v, %d", s, int(e))
		}
		checkTake(t, s, 0)
		checkRefused(t, s, 1, api.ErrBits)
		for _, bits := range []uint64{1, 8, 800, math.MaxUint64} {
			if s, e := Tape(b, bits); e != api.ErrArg || !isZero(s) {
				t.Errorf("%d bits: %v, %d", bits, s, int(e))
			}
		}
	}
}

func TestTapeOfManyBytes(t *testing.T) { // P7.1
	b := message(1<<20 + 3)
	s, e := Tape(b, 1<<23+21)
	if e != api.OK || Left(s) != 1<<23+21 {
		t.Fatal(Left(s), int(e))
	}
	s.At = 1<<23 - 10
	if x, next := mustTake(t, s, 31); x != number(t, digits(b[1<<20-2:])[6:37]) || Left(next) != 0 {
		t.Errorf("%#x, %d left", x, Left(next))
	}
	if _, e := Tape(b, 1<<23+25); e != api.ErrArg {
		t.Error("one bit more than the bytes have:", int(e))
	}
}

func TestStreamOfEach(t *testing.T) { // P7.1
	for _, seed := range seeds() {
		for _, domain := range []uint64{0, 1, 9, 1<<32 + 2, 1 << 63, math.MaxUint64} {
			s := Stream(seed, domain)
			if !alike(s, streamAt(seed, domain, 0)) || !Right(s) || Left(s) != streamEnd {
				t.Errorf("Stream(%x, %#x) = %v", seed, domain, s)
			}
		}
	}
}

func TestTakeByHand(t *testing.T) { // P7.1
	s, e := Tape([]byte{176}, 8)
	if e != api.OK {
		t.Fatal(int(e))
	}
	for i, c := range []struct {
		k    int
		want uint64
		left uint64
	}{{3, 5, 5}, {0, 0, 5}, {1, 1, 4}, {4, 0, 0}, {0, 0, 0}} {
		x, next := mustTake(t, s, c.k)
		if x != c.want || Left(next) != c.left {
			t.Errorf("%d: %d, and %d left, want %d, and %d", i, x, Left(next), c.want, c.left)
		}
		s = next
	}

	s = tapeAt([]byte{0xf1, 0xe2, 0xd3, 0xc4, 0xb5, 0xa6, 0x97, 0x88, 0x79}, 72, 0)
	if x, next := mustTake(t, s, 64); x != 0xf1e2d3c4b5a69788 || next.At != 64 {
		t.Errorf("64 bits: %#x", x)
	}
	s.At = 4
	if x, next := mustTake(t, s, 64); x != 0x1e2d3c4b5a697887 || next.At != 68 {
		t.Errorf("64 bits from the fourth one on: %#x", x)
	}

	// Made outside of the project: of noughts the first block begins with 17b0761f87b081d5 and ends with dcbcd1, the second one begins with 86f77354.
	s = Stream(api.Hash{}, 0)
	if x, _ := mustTake(t, s, 64); x != 0x17b0761f87b081d5 {
		t.Errorf("64 bits of the stream: %#x", x)
	}
	s.At = 232
	if x, next := mustTake(t, s, 56); x != 0xdcbcd186f77354 || next.At != 288 {
		t.Errorf("the bits about a block's end: %#x", x)
	}
}

func TestTakeOfEachPlaceOfATape(t *testing.T) { // P7.1
	b := message(20)
	for _, bits := range []uint64{160, 159, 153, 152, 77, 64, 63, 9, 8, 7, 1, 0} {
		for at := range bits + 1 {
			s := tapeAt(b, bits, at)
			for k := range 65 {
				if uint64(k) <= bits-at {
					checkTake(t, s, k)
				} else {
					checkRefused(t, s, k, api.ErrBits)
				}
			}
		}
	}
}

func TestTakeOfEachByte(t *testing.T) { // P7.1
	for c := range 256 {
		for at := range uint64(9) {
			for k := range 9 - int(at) {
				checkTake(t, tapeAt([]byte{byte(c)}, 8, at), k)
			}
		}
	}
}

func TestTakeOfAStream(t *testing.T) { // P7.1: about the ends of bytes and of blocks
	for i, seed := range seeds() {
		domain := []uint64{0, 1<<32 + 2, math.MaxUint64}[i]
		for _, end := range []uint64{256, 512, 1 << 32, 1<<40 + 256, 1 << 61, streamEnd - 256} {
			for at := end - 72; at <= end+9; at++ {
				for _, k := range []int{0, 1, 2, 7, 8, 9, 33, 63, 64} {
					checkTake(t, streamAt(seed, domain, at), k)
				}
			}
		}
		for k := range 65 {
			checkTake(t, Stream(seed, domain), k)
		}
	}
}

func TestTakeOfAStreamsEnd(t *testing.T) { // P7.1
	seed := seeds()[2]
	for left := range uint64(70) {
		s := streamAt(seed, 9, streamEnd-left)
		if got := Left(s); got != left {
			t.Errorf("%d are left, want %d", got, left)
		}
		for k := range 65 {
			if uint64(k) <= left {
				checkTake(t, s, k)
			} else {
				checkRefused(t, s, k, api.ErrBits)
			}
		}
	}
}

func TestTakeOfAnEnd(t *testing.T) { // P7.1: where nothing is left, no bits can be taken, and one can't
	for _, s := range []api.Source{tapeAt(nil, 0, 0), tapeAt(message(3), 0, 0), tapeAt(message(3), 20, 20), tapeAt(message(3), 24, 24), streamAt(seeds()[1], 9, streamEnd)} {
		if got := Left(s); got != 0 {
			t.Errorf("of %v %d are left", s, got)
		}
		checkTake(t, s, 0)
		checkRefused(t, s, 1, api.ErrBits)
		checkRefused(t, s, 64, api.ErrBits)
		checkRefused(t, s, 65, api.ErrArg)
		checkRefused(t, s, -1, api.ErrArg)
	}
}

func TestTakeOfWrongCounts(t *testing.T) { // P7.1: ErrArg, even where there are too few bits, too
	for _, s := range rightSources() {
		for _, k := range wrongCounts() {
			checkRefused(t, s, k, api.ErrArg)
			checkRefused(t, withOthers(s), k, api.ErrArg)
		}
	}
}

func TestTakeOfWrongSources(t *testing.T) { // P7.1: ErrArg, whatever is taken
	for _, s := range wrongSources() {
		for k := range 65 {
			checkRefused(t, s, k, api.ErrArg)
		}
		for _, k := range wrongCounts() {
			checkRefused(t, s, k, api.ErrArg)
		}
	}
}

func TestTakeOfOneMore(t *testing.T) { // P7.1: just as many as are left, and one more
	b := message(20)
	for left := range uint64(64) {
		for _, at := range []uint64{0, 1, 8, 13, 77} {
			s := tapeAt(b, at+left, at)
			checkTake(t, s, int(left))
			checkRefused(t, s, int(left)+1, api.ErrBits)
			checkTake(t, withOthers(s), int(left))
			checkRefused(t, withOthers(s), int(left)+1, api.ErrBits)
		}
	}
}

func TestOtherFieldsDontCount(t *testing.T) { // P7.1: but they are handed back
	for _, s := range rightSources() {
		other := withOthers(s)
		if alike(s, other) {
			t.Fatal("no other fields")
		}
		if Left(other) != Left(s) {
			t.Errorf("of %v %d are left, want %d", other, Left(other), Left(s))
		}
		for _, k := range []int{0, 1, 33, 64} {
			if uint64(k) > leftOf(s) {
				checkRefused(t, other, k, api.ErrBits)
				continue
			}
			checkTake(t, other, k)
			x, _ := mustTake(t, s, k)
			if y, _ := mustTake(t, other, k); x != y {
				t.Errorf("Take(%v, %d) = %#x, want %#x", other, k, y, x)
			}
		}
	}
	// A stream's place may be above the bits that its tape has, and above Bits.
	checkTake(t, api.Source{Kind: api.SrcStream, Tape: message(2), Bits: 5, At: 500}, 64)
	checkTake(t, api.Source{Kind: api.SrcStream, Tape: message(2), Bits: 5, At: streamEnd - 64}, 64)
}

func TestBitsOfATapeAreBelowBits(t *testing.T) { // P7.1: the bytes' bits from there on are nobody's
	b := []byte{0xff, 0xff}
	for bits := range uint64(17) {
		s := tapeAt(b, bits, 0)
		if x, next := mustTake(t, s, int(bits)); x != 1<<bits-1 || Left(next) != 0 {
			t.Errorf("%d bits: %#x, and %d left", bits, x, Left(next))
		}
		checkRefused(t, s, int(bits)+1, api.ErrBits)
	}
}

func TestLeft(t *testing.T) { // P7.1
	for _, s := range rightSources() {
		if got := Left(s); got != leftOf(s) {
			t.Errorf("Left(%v) = %d, want %d", s, got, leftOf(s))
		}
	}
	for _, s := range wrongSources() {
		if got := Left(s); got != 0 {
			t.Errorf("Left(%v) = %d", s, got)
		}
	}
	for n := range 4 {
		for bits := range uint64(8*n + 10) {
			for at := range bits + 2 {
				want := uint64(0)
				if bits <= uint64(8*n) && at <= bits {
					want = bits - at
				}
				if got := Left(tapeAt(message(n), bits, at)); got != want {
					t.Errorf("%d bytes, %d bits, at %d: %d left, want %d", n, bits, at, got, want)
				}
			}
		}
	}
}

// variants are sources of which no two are the same: one, and it with one field after the other changed.
func variants(s api.Source) []api.Source {
	l := []api.Source{s}
	add := func(change func(s *api.Source)) {
		other := s
		other.Tape = bytes.Clone(s.Tape)
		change(&other)
		l = append(l, other)
	}
	for i := range 64 {
		add(func(s *api.Source) { s.Kind ^= 1 << i })
		add(func(s *api.Source) { s.Bits ^= 1 << i })
		add(func(s *api.Source) { s.Domain ^= 1 << i })
		add(func(s *api.Source) { s.At ^= 1 << i })
	}
	for i := range s.Seed {
		add(func(s *api.Source) { s.Seed[i] ^= 1 })
		add(func(s *api.Source) { s.Seed[i] ^= 128 })
	}
	for i := range s.Tape {
		add(func(s *api.Source) { s.Tape[i] ^= 1 })
		add(func(s *api.Source) { s.Tape[i] ^= 128 })
	}
	add(func(s *api.Source) { s.Tape = append(s.Tape, 0) })
	add(func(s *api.Source) { s.Tape = append([]byte{0}, s.Tape...) })
	if n := len(s.Tape); n > 0 {
		add(func(s *api.Source) { s.Tape = s.Tape[:n-1] })
		add(func(s *api.Source) { s.Tape = s.Tape[1:] })
		add(func(s *api.Source) { s.Tape = nil })
	}
	return l
}

func TestSameLooksAtAllFields(t *testing.T) { // P7.1: at those that don't count, too
	full := api.Source{Tape: message(7), Bits: 50, Seed: seeds()[1], Domain: 1<<32 + 2, At: 21}
	for _, kind := range []int{api.SrcTape, api.SrcStream, 0, 3} {
		s := full
		s.Kind = kind
		l := variants(s)
		for i, a := range l {
			for j, b := range l {
				if got, want := Same(a, b), i == j; got != want {
					t.Errorf("kind %d: Same of the %d. and the %d. one: %v", kind, i, j, got)
				}
			}
		}
	}
}

func TestSameOfEqualOnes(t *testing.T) { // P7.1: byte by byte, not by where the bytes are
	all := append(append(rightSources(), wrongSources()...), api.Source{Kind: -1, Tape: message(300), Bits: 1, At: 2})
	for _, s := range all {
		other := s
		other.Tape = append(make([]byte, 0, len(s.Tape)+50), s.Tape...)
		if !Same(s, s) || !Same(s, other) || !Same(other, s) {
			t.Errorf("%v isn't the same as itself", s)
		}
		if changed := withOthers(s); Same(s, changed) || Same(changed, s) {
			t.Errorf("%v and %v are the same", s, changed)
		}
	}
	for _, kind := range []int{0, api.SrcTape, api.SrcStream} {
		if !Same(api.Source{Kind: kind}, api.Source{Kind: kind, Tape: []byte{}}) || !Same(api.Source{Kind: kind, Tape: []byte{}}, api.Source{Kind: kind}) {
			t.Error("a tape that holds nothing may be nil or empty")
		}
	}
}

func TestSameOfTwo(t *testing.T) { // P7.1
	l := append(rightSources(), wrongSources()...)
	for _, a := range l {
		for _, b := range l {
			if got, want := Same(a, b), alike(a, b); got != want {
				t.Errorf("Same(%v, %v) = %v", a, b, got)
			}
		}
	}
}

// guarded is a copy of b with other bytes ahead of it, and room behind its length; the second result tells if all of them are as they were.
func guarded(b []byte) ([]byte, func() bool) {
	all := bytes.Repeat([]byte{0xa5}, len(b)+200)
	copy(all[100:], b)
	was := bytes.Clone(all)
	return all[100 : 100+len(b)], func() bool { return bytes.Equal(all, was) }
}

func TestWhatIsHandedInStays(t *testing.T) { // P7.1
	for n := range 20 {
		b, kept := guarded(message(n))
		for _, bits := range []uint64{0, 1, uint64(8 * n), uint64(8*n) + 1, math.MaxUint64} {
			Tape(b, bits)
			for _, kind := range []int{api.SrcTape, api.SrcStream, 3} {
				s := api.Source{Kind: kind, Tape: b, Bits: bits, Seed: seeds()[1], Domain: 9}
				was := s
				Right(s)
				Left(s)
				Same(s, s)
				for k := -1; k <= 65; k++ {
					_, next, _ := Take(s, k)
					Take(next, 3)
				}
				if !alike(s, was) {
					t.Errorf("%v became %v", was, s)
				}
			}
		}
		if !kept() {
			t.Errorf("%d bytes: what was handed in has changed", n)
		}
	}
}

func TestTakenAgain(t *testing.T) { // P7.1: a call hangs on its arguments alone
	for _, s := range rightSources() {
		for _, k := range []int{1, 13, 64} {
			if uint64(k) > leftOf(s) {
				continue
			}
			x, first := mustTake(t, s, k)
			Take(first, k)
			Take(streamAt(seeds()[0], 77, 300), 64)
			if y, second := mustTake(t, s, k); x != y || !alike(first, second) {
				t.Errorf("Take(%v, %d): %#x, then %#x", s, k, x, y)
			}
		}
	}
}

// pieces takes so many bits at once, piece by piece, and answers them as one number.
func pieces(t *testing.T, s api.Source, l ...int) (uint64, api.Source) {
	t.Helper()
	x := uint64(0)
	for _, k := range l {
		y, next := mustTake(t, s, k)
		if next.At != s.At+uint64(k) || Left(next) != Left(s)-uint64(k) {
			t.Errorf("behind %d bits of %v: at %d, and %d left", k, s, next.At, Left(next))
		}
		x, s = x<<k|y, next
	}
	return x, s
}

func ones(k int) []int {
	l := make([]int, k)
	for i := range l {
		l[i] = 1
	}
	return l
}

func TestOneByOne(t *testing.T) { // P7.2
	for _, s := range rightSources() {
		for k := range 65 {
			if uint64(k) > leftOf(s) {
				break
			}
			x, next := mustTake(t, s, k)
			y, behind := pieces(t, s, ones(k)...)
			if x != y || !alike(next, behind) {
				t.Errorf("%d bits of %v: at once %#x, one by one %#x", k, s, x, y)
			}
		}
	}
}

func TestInTwoPieces(t *testing.T) { // P7.2
	for _, s := range rightSources() {
		for _, k := range []int{0, 1, 2, 8, 33, 63, 64} {
			if uint64(k) > leftOf(s) {
				break
			}
			x, next := mustTake(t, s, k)
			for i := range k + 1 {
				if y, behind := pieces(t, s, i, k-i); x != y || !alike(next, behind) {
					t.Errorf("%d bits of %v: at once %#x, %d and %d of them %#x", k, s, x, i, k-i, y)
				}
			}
		}
	}
}

func TestInManyPieces(t *testing.T) { // P7.2
	for _, s := range rightSources() {
		if leftOf(s) < 64 {
			continue
		}
		x, next := mustTake(t, s, 64)
		for _, l := range [][]int{{7, 0, 8, 0, 9, 40}, {13, 13, 13, 13, 12}, {0, 0, 64}, {31, 2, 31}, {63, 0, 1}} {
			if y, behind := pieces(t, s, l...); x != y || !alike(next, behind) {
				t.Errorf("64 bits of %v: at once %#x, by %v %#x", s, x, l, y)
			}
		}
	}
}

// readAll takes all bits of s, by so many at once, again and again, and answers them as text.
func readAll(t *testing.T, s api.Source, bits uint64, l ...int) string {
	t.Helper()
	var text strings.Builder
	for i := 0; bits > 0; i++ {
		k := min(uint64(l[i%len(l)]), bits)
		x, next := mustTake(t, s, int(k))
		if k > 0 {
			fmt.Fprintf(&text, "%0*b", int(k), x)
		}
		s, bits = next, bits-k
	}
	return text.String()
}

func TestNoBitIsReadTwice(t *testing.T) { // P7.2: all that is taken, one behind the other, is what there is
	b := message(300)
	ofBytes, ofBlocks := tapeAt(b, 2397, 0), streamAt(seeds()[2], 9, 5)
	for _, l := range [][]int{{1}, {3}, {7}, {8}, {13}, {63}, {64}, {0, 5}, {1, 2, 3, 4, 5, 6, 7}, {64, 1}, {64, 63, 0, 62}} {
		if got, want := readAll(t, ofBytes, 2397, l...), digits(b)[:2397]; got != want {
			t.Errorf("the tape by %v: %s, want %s", l, got, want)
		}
		want := ""
		for i := range uint64(5) {
			want += blockDigits(ofBlocks.Seed, ofBlocks.Domain, i)
		}
		if got := readAll(t, ofBlocks, 1200, l...); got != want[5:1205] {
			t.Errorf("the stream by %v: %s, want %s", l, got, want[5:1205])
		}
	}
}

func TestRefusedTakesReadNothing(t *testing.T) { // P7.2: what comes behind them is what would have come ahead
	for _, s := range rightSources() {
		_, next, _ := Take(s, 65)
		_, next, _ = Take(next, -1)
		if leftOf(s) < 64 {
			_, next, _ = Take(next, int(leftOf(s))+1)
		}
		k := int(min(leftOf(s), 64))
		x, _ := mustTake(t, s, k)
		if y, _ := mustTake(t, next, k); x != y || !alike(s, next) {
			t.Errorf("%v became %v", s, next)
		}
	}
}
