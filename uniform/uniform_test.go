package uniform

import (
	"bytes"
	"crypto/sha256"
	"encoding/binary"
	"fmt"
	"math"
	"math/big"
	"strconv"
	"strings"
	"testing"

	"drawlot/api"
)

// streamEnd is the number behind the last one of a stream's bits.
const streamEnd = 1 << 62

// seeds are noughts, bytes that are unlike where they stand, and a hash.
func seeds() []api.Hash {
	var noughts, counted api.Hash
	for i := range counted {
		counted[i] = byte(i + 1)
	}
	return []api.Hash{noughts, counted, sha256.Sum256([]byte("seed"))}
}

func tapeAt(b []byte, bits, at uint64) api.Source {
	return api.Source{Kind: api.SrcTape, Tape: b, Bits: bits, At: at}
}

func streamAt(seed api.Hash, domain, at uint64) api.Source {
	return api.Source{Kind: api.SrcStream, Seed: seed, Domain: domain, At: at}
}

// tapeOf is a tape of these digits; blanks between them don't count.
func tapeOf(text string) api.Source {
	text = strings.ReplaceAll(text, " ", "")
	b := make([]byte, (len(text)+7)/8)
	for i, c := range text {
		if c == '1' {
			b[i/8] |= 128 >> (i % 8)
		}
	}
	return tapeAt(b, uint64(len(text)), 0)
}

// behind is s with so many bits read.
func behind(s api.Source, read int) api.Source {
	s.At += uint64(read)
	return s
}

// alike holds two sources against each other in all fields; a tape that holds nothing may be nil.
func alike(a, b api.Source) bool {
	return a.Kind == b.Kind && string(a.Tape) == string(b.Tape) && a.Bits == b.Bits && a.Seed == b.Seed && a.Domain == b.Domain && a.At == b.At
}

// digits is the bytes as text, each as eight digits.
func digits(b []byte) string {
	var text strings.Builder
	for _, c := range b {
		fmt.Fprintf(&text, "%08b", c)
	}
	return text.String()
}

// ahead is the bits of a source that may be, from the next one on, as text: all of a tape, of a stream at least most, if there are so many.
func ahead(s api.Source, most int) string {
	if s.Kind == api.SrcTape {
		return digits(s.Tape)[s.At:s.Bits]
	}
	var text strings.Builder
	for i := s.At / 256; text.Len() < most+256 && i < streamEnd/256; i++ {
		b := append([]byte(nil), s.Seed[:]...)
		b = binary.BigEndian.AppendUint64(b, s.Domain)
		b = binary.BigEndian.AppendUint64(b, i)
		block := sha256.Sum256(b)
		text.WriteString(digits(block[:]))
	}
	return text.String()[min(s.At%256, uint64(text.Len())):]
}

// bitsOf is how many bits n - 1 has, for n from 1 on.
func bitsOf(n uint64) int { return new(big.Int).SetUint64(n - 1).BitLen() }

// model is the chapter's words of a draw of these bits: what is drawn, how many bits were read, and the error.
func model(t *testing.T, text string, n uint64, attempts int) (uint64, int, api.Errno) {
	t.Helper()
	k, read := bitsOf(n), 0
	for range attempts {
		if len(text)-read < k {
			return 0, read, api.ErrBits
		}
		// A nought ahead changes nothing, and makes a number of no digits, too.
		x, err := strconv.ParseUint("0"+text[read:][:k], 2, 64)
		if err != nil {
			t.Fatal(err)
		}
		read += k
		if x < n {
			return x, read, api.OK
		}
	}
	return 0, read, api.ErrDraws
}

// check holds a draw of a source that may be against the chapter's words, and answers its error.
func check(t *testing.T, s api.Source, n uint64, attempts int) api.Errno {
	t.Helper()
	want, read, wantErr := model(t, ahead(s, attempts*bitsOf(n)), n, attempts)
	is(t, s, n, attempts, want, read, wantErr)
	return wantErr
}

// is holds a draw against what it must be.
func is(t *testing.T, s api.Source, n uint64, attempts int, want uint64, read int, wantErr api.Errno) {
	t.Helper()
	x, next, e := Draw(s, n, attempts)
	if x != want || !alike(next, behind(s, read)) || e != wantErr {
		t.Errorf("Draw(%v, %d, %d) = %d, %v, %d, want %d, %d bits read, %d", s, n, attempts, x, next, int(e), want, read, int(wantErr))
	}
}

// checkRefused holds that nothing is drawn, and that the source comes back as it was.
func checkRefused(t *testing.T, s api.Source, n uint64, attempts int) {
	t.Helper()
	is(t, s, n, attempts, 0, 0, api.ErrArg)
}

// rightBounds are 1, 2, all powers of two below 2^63, one more and one less, and some between.
func rightBounds() []uint64 {
	l := []uint64{1, 2, 3}
	for i := 2; i < 63; i++ {
		l = append(l, 1<<i, 1<<i+1)
		if i > 2 {
			l = append(l, 1<<i-1, 1<<i-1<<(i-2)-1)
		}
	}
	return append(l, 1<<63-3, 1<<63-2, 1<<63-1, 0x0102030405060708)
}

// wrongBounds are 0, 2^63 and more, some whose lowest bits alone would do.
func wrongBounds() []uint64 {
	return []uint64{0, 1 << 63, 1<<63 + 1, 1<<63 + 2, 1<<63 + 5, 3 << 62, math.MaxUint64 - 1, math.MaxUint64}
}

// wrongAttempts are those below 1 and above 64, some whose lowest bits alone would do.
func wrongAttempts() []int {
	return []int{0, -1, -2, -63, -64, -65, math.MinInt32, math.MinInt, math.MinInt + 1, 65, 66, 128, 255, 256, 257, 1<<16 + 1, 1 << 32, 1<<32 + 1, math.MaxInt - 63, math.MaxInt}
}

// wrongSources are sources that may not be, for each reason that there is.
func wrongSources() []api.Source {
	b := []byte{0, 0x55, 0xff}
	seed := seeds()[1]
	l := []api.Source{
		{}, {Tape: b, Bits: 24},
		tapeAt(nil, 1, 0), tapeAt(nil, 0, 1), tapeAt(nil, math.MaxUint64, 0), tapeAt(b, 25, 0), tapeAt(b, 25, 3), tapeAt(b, 1<<61+24, 0), tapeAt(b, math.MaxUint64, 0),
		tapeAt(b, 24, 25), tapeAt(b, 20, 21), tapeAt(b, 0, 1), tapeAt(b, 24, 1<<63), tapeAt(b, 24, math.MaxUint64),
		streamAt(seed, 9, streamEnd+1), streamAt(seed, 9, 1<<63), streamAt(seed, 9, math.MaxUint64),
		{Kind: api.SrcStream, Tape: b, Bits: math.MaxUint64, At: streamEnd + 1},
	}
	for _, kind := range []int{3, -1, -2, 1<<8 + 1, 1<<32 + 1, 1<<32 + 2, math.MinInt, math.MinInt + 1, math.MaxInt} {
		l = append(l, api.Source{Kind: kind}, api.Source{Kind: kind, Tape: b, Bits: 24, Seed: seed, Domain: 9, At: 3})
	}
	return l
}

// rightSources are sources that may be: at their beginnings, ends, and between, with and without values in the fields that don't count.
func rightSources() []api.Source {
	b := []byte{0, 0x55, 0xff, 0xa7, 0x3c, 0, 0, 0xff, 0xff, 1}
	seed := seeds()[2]
	return []api.Source{
		tapeAt(nil, 0, 0), tapeAt([]byte{}, 0, 0), tapeAt(b, 0, 0), tapeAt(b, 80, 0), tapeAt(b, 80, 13), tapeAt(b, 80, 79), tapeAt(b, 80, 80), tapeAt(b, 77, 77), tapeAt(b, 9, 8),
		streamAt(seed, 9, 0), streamAt(seeds()[0], math.MaxUint64, 255), streamAt(seed, 1<<32+2, 1<<40+13), streamAt(seed, 9, streamEnd-64), streamAt(seed, 9, streamEnd-1), streamAt(seed, 9, streamEnd),
		{Kind: api.SrcTape, Tape: b, Bits: 70, Seed: seed, Domain: math.MaxUint64, At: 3},
		{Kind: api.SrcStream, Tape: b, Bits: math.MaxUint64, Seed: seed, Domain: 4, At: 100},
	}
}

func TestNeedByHand(t *testing.T) { // P8.1
	for n, want := range map[uint64]int{0: 0, 1: 0, 2: 1, 3: 2, 4: 2, 5: 3, 8: 3, 9: 4, 1000: 10, 1024: 10, 1025: 11, 1 << 32: 32, 1<<32 + 1: 33, 1<<63 - 1: 63, 1 << 63: 63, 1<<63 + 1: 64, math.MaxUint64: 64} {
		if got := Need(n); got != want {
			t.Errorf("Need(%d) = %d, want %d", n, got, want)
		}
	}
}

func TestNeedOfMany(t *testing.T) { // P8.1
	l := append(rightBounds(), wrongBounds()[1:]...)
	for n := range uint64(5000) {
		l = append(l, n+1)
	}
	for _, n := range l {
		if got, want := Need(n), bitsOf(n); got != want {
			t.Errorf("Need(%d) = %d, want %d", n, got, want)
		}
	}
}

// byHand is a draw of a tape of these digits, and what comes of it.
type byHand struct {
	text     string
	n        uint64
	attempts int
	want     uint64
	read     int
	e        api.Errno
}

func TestDrawByHand(t *testing.T) { // P8.1
	for _, c := range []byHand{
		{"111 110 100", 5, 3, 4, 9, api.OK},
		{"111 110 100", 5, 64, 4, 9, api.OK},
		{"111 110 100", 5, 2, 0, 6, api.ErrDraws},
		{"111 110 100", 5, 1, 0, 3, api.ErrDraws},
		{"111 110 100", 8, 3, 7, 3, api.OK},
		{"111 110 100", 7, 3, 6, 6, api.OK},
		{"111 110 10", 5, 3, 0, 6, api.ErrBits},
		{"111 110 10", 5, 2, 0, 6, api.ErrDraws},
		{"111 110", 5, 3, 0, 6, api.ErrBits},
		{"111 110", 5, 2, 0, 6, api.ErrDraws},
		{"111 11", 5, 2, 0, 3, api.ErrBits},
		{"111", 5, 2, 0, 3, api.ErrBits},
		{"111", 5, 1, 0, 3, api.ErrDraws},
		{"10", 5, 1, 0, 0, api.ErrBits},
		{"", 5, 1, 0, 0, api.ErrBits},
		{"", 5, 64, 0, 0, api.ErrBits},
		{"101 000", 5, 2, 0, 6, api.OK},
		{"100 000", 5, 2, 4, 3, api.OK},
		{"000", 5, 2, 0, 3, api.OK},
		{"", 1, 1, 0, 0, api.OK},
		{"", 1, 64, 0, 0, api.OK},
		{"1", 1, 1, 0, 0, api.OK},
		{"", 2, 1, 0, 0, api.ErrBits},
		{"1", 2, 1, 1, 1, api.OK},
		{"01", 2, 1, 0, 1, api.OK},
		{"11 11 10", 3, 3, 2, 6, api.OK},
		{"11 11 10", 4, 3, 3, 2, api.OK},
		{"", 0, 1, 0, 0, api.ErrArg},
		{"111", 0, 1, 0, 0, api.ErrArg},
		{"111", 5, 0, 0, 0, api.ErrArg},
		{"111", 5, 65, 0, 0, api.ErrArg},
		{"111", 5, -1, 0, 0, api.ErrArg},
	} {
		is(t, tapeOf(c.text), c.n, c.attempts, c.want, c.read, c.e)
	}
}

func TestDrawByHandOfGreatBounds(t *testing.T) { // P8.1
	one, none := strings.Repeat("1", 62), strings.Repeat("0", 62)
	for _, c := range []byHand{
		{one + "1", 1<<63 - 1, 1, 0, 63, api.ErrDraws},
		{one + "1" + one + "0", 1<<63 - 1, 2, 1<<63 - 2, 126, api.OK},
		{one + "0", 1<<63 - 1, 1, 1<<63 - 2, 63, api.OK},
		{one + "0", 1<<63 - 2, 1, 0, 63, api.ErrDraws},
		{one, 1<<63 - 1, 1, 0, 0, api.ErrBits},
		{one, 1 << 62, 1, 1<<62 - 1, 62, api.OK},
		{"1" + none, 1<<62 + 1, 1, 1 << 62, 63, api.OK},
		{"1" + none, 1 << 62, 1, 1 << 61, 62, api.OK},
		{"1" + none[1:] + "1", 1<<62 + 1, 1, 0, 63, api.ErrDraws},
		{one + "1", 1 << 63, 1, 0, 0, api.ErrArg},
		{one + "11", 1<<63 + 1, 1, 0, 0, api.ErrArg},
		{one + "11", math.MaxUint64, 1, 0, 0, api.ErrArg},
	} {
		is(t, tapeOf(c.text), c.n, c.attempts, c.want, c.read, c.e)
	}
}

func TestDrawOfEachSmallTape(t *testing.T) { // P8.1
	for bits := range 11 {
		for v := range 1 << bits {
			text := ""
			if bits > 0 {
				text = fmt.Sprintf("%0*b", bits, v)
			}
			s := tapeOf(text)
			for _, n := range []uint64{1, 2, 3, 4, 5, 7, 8, 9, 100} {
				for _, attempts := range []int{1, 2, 3, 64} {
					check(t, s, n, attempts)
				}
			}
		}
	}
}

func TestDrawOfEachPlaceOfATape(t *testing.T) { // P8.1: bits ahead of At, and from Bits on, are nobody's
	b := []byte{0xff, 0xe7, 0xff, 0x3f, 0xfa, 0xff, 0xff}
	for bits := range uint64(8*len(b) + 1) {
		for at := range bits + 1 {
			for _, n := range []uint64{1, 2, 3, 5, 6, 9, 17, 129, 1025} {
				for _, attempts := range []int{1, 2, 5} {
					check(t, tapeAt(b, bits, at), n, attempts)
				}
			}
		}
	}
}

// lossOf is the digits of an attempt for n that draws nothing: of n itself, or of the greatest number of its bits; none, if there is none.
func lossOf(n uint64, greatest bool) string {
	k := bitsOf(n)
	if n == 1<<k {
		return ""
	}
	if greatest {
		return strings.Repeat("1", k)
	}
	return fmt.Sprintf("%0*b", k, n)
}

func TestDrawOfEachBound(t *testing.T) { // P8.1: 0, and the greatest number below the bound, of the first attempt
	for _, n := range rightBounds() {
		k := bitsOf(n)
		for _, x := range []uint64{0, n / 2, n - 1} {
			s := tapeOf(fmt.Sprintf("%0*b", k, x))
			if k == 0 {
				s = tapeOf("")
			}
			for _, attempts := range []int{1, 2, 64} {
				is(t, s, n, attempts, x, k, api.OK)
			}
			if k > 0 {
				s.Bits--
				is(t, s, n, 64, 0, 0, api.ErrBits)
				s.Bits, s.At = uint64(k), 1
				is(t, s, n, 64, 0, 0, api.ErrBits)
			}
		}
	}
}

func TestDrawBehindLosses(t *testing.T) { // P8.1: the attempts of each number, the 64th too, and not one more
	for _, n := range rightBounds() {
		k := bitsOf(n)
		for _, loss := range []string{lossOf(n, false), lossOf(n, true)} {
			if loss == "" {
				continue
			}
			for _, lost := range []int{1, 2, 62, 63, 64} {
				losses := "101" + strings.Repeat(loss, lost)
				last := fmt.Sprintf("%0*b", k, n-1)
				s, short := behind(tapeOf(losses+last+"1"), 3), behind(tapeOf(losses+last[1:]), 3)
				is(t, s, n, lost, 0, lost*k, api.ErrDraws)
				is(t, short, n, lost, 0, lost*k, api.ErrDraws)
				if lost == api.MaxAttempts {
					checkRefused(t, s, n, lost+1)
					continue
				}
				is(t, s, n, lost+1, n-1, (lost+1)*k, api.OK)
				is(t, s, n, 64, n-1, (lost+1)*k, api.OK)
				is(t, short, n, lost+1, 0, lost*k, api.ErrBits)
				is(t, short, n, 64, 0, lost*k, api.ErrBits)
			}
		}
	}
}

func TestWhereBitsEnd(t *testing.T) { // P8.1: within an attempt, just behind one, ahead of the first one
	for _, n := range []uint64{3, 5, 9, 1000, 1<<32 + 1, 1<<63 - 1} {
		k := bitsOf(n)
		loss := lossOf(n, true)
		for more := range k {
			for lost := range 4 {
				s := tapeOf(strings.Repeat(loss, lost) + loss[:more])
				for attempts := range 6 {
					switch {
					case attempts == 0:
						checkRefused(t, s, n, attempts)
					case attempts <= lost:
						is(t, s, n, attempts, 0, attempts*k, api.ErrDraws)
					default:
						is(t, s, n, attempts, 0, lost*k, api.ErrBits)
					}
				}
			}
		}
	}
}

func TestTheBoundOneTakesNoBits(t *testing.T) { // P8.1
	for _, s := range rightSources() {
		for attempts := 1; attempts <= api.MaxAttempts; attempts++ {
			is(t, s, 1, attempts, 0, 0, api.OK)
		}
	}
}

func TestEachNumberOfAttempts(t *testing.T) { // P8.1
	s := tapeOf(strings.Repeat("11", 70))
	for attempts := -3; attempts < 70; attempts++ {
		if attempts < 1 || attempts > 64 {
			checkRefused(t, s, 3, attempts)
			continue
		}
		is(t, s, 3, attempts, 0, 2*attempts, api.ErrDraws)
		is(t, behind(s, 140-2*attempts), 3, attempts, 0, 2*attempts, api.ErrDraws)
		is(t, behind(s, 141-2*attempts), 3, attempts, 0, 2*attempts-2, api.ErrBits)
	}
}

func TestDrawOfManySources(t *testing.T) { // P8.1: the fields that don't count don't, and are handed back
	for _, s := range rightSources() {
		for _, n := range rightBounds() {
			for _, attempts := range []int{1, 2, 3, 64} {
				check(t, s, n, attempts)
			}
		}
	}
}

func TestDrawOfAStream(t *testing.T) { // P8.1: about a block's end, too
	seen := map[api.Errno]int{}
	for i, seed := range seeds() {
		domain := []uint64{0, 1<<32 + 2, math.MaxUint64}[i]
		for _, from := range []uint64{0, 1<<32 - 4, 1<<40 + 240} {
			for at := from; at < from+20; at++ {
				for _, n := range []uint64{1, 2, 3, 5, 129, 256, 1025, 1<<32 + 1, 1<<62 + 1, 1<<63 - 1} {
					for _, attempts := range []int{1, 2, 5, 64} {
						seen[check(t, streamAt(seed, domain, at), n, attempts)]++
					}
				}
			}
		}
	}
	if seen[api.OK] == 0 || seen[api.ErrDraws] == 0 {
		t.Error("not all that may come came:", seen)
	}
}

func TestDrawOfAStreamsEnd(t *testing.T) { // P8.1
	seen := map[api.Errno]int{}
	for _, seed := range seeds() {
		for left := range uint64(140) {
			for _, n := range []uint64{1, 2, 3, 5, 129, 1<<32 + 1, 1<<62 + 1, 1<<63 - 1} {
				for _, attempts := range []int{1, 2, 3, 64} {
					seen[check(t, streamAt(seed, 9, streamEnd-left), n, attempts)]++
				}
			}
		}
	}
	if seen[api.OK] == 0 || seen[api.ErrDraws] == 0 || seen[api.ErrBits] == 0 {
		t.Error("not all that may come came:", seen)
	}
}

func TestStreamAsATape(t *testing.T) { // P8.1: a stream draws as a tape of its bits
	for _, seed := range seeds() {
		ofStream := streamAt(seed, 7, 0)
		ofTape := tapeOf(ahead(ofStream, 5000))
		for _, n := range []uint64{2, 3, 5, 1000, 1025, 1<<62 + 1, 1<<63 - 1} {
			s, other := ofStream, ofTape
			for range 30 {
				x, next, e := Draw(s, n, 3)
				y, following, f := Draw(other, n, 3)
				if x != y || e != f || next.At != following.At {
					t.Errorf("below %d: of the stream %d, %d, of the tape %d, %d", n, x, int(e), y, int(f))
				}
				s, other = next, following
			}
		}
	}
}

func TestWrongSources(t *testing.T) { // P8.1: ErrArg, and the source as it was, whatever is asked
	for _, s := range wrongSources() {
		for _, n := range append(rightBounds(), wrongBounds()...) {
			for _, attempts := range append(wrongAttempts(), 1, 2, 64) {
				checkRefused(t, s, n, attempts)
			}
		}
	}
}

func TestWrongBounds(t *testing.T) { // P8.1: ErrArg, even where there are too few bits
	for _, s := range rightSources() {
		for _, n := range wrongBounds() {
			for _, attempts := range append(wrongAttempts(), 1, 2, 64) {
				checkRefused(t, s, n, attempts)
			}
		}
	}
}

func TestWrongAttempts(t *testing.T) { // P8.1: ErrArg, even where there are too few bits, or none is taken
	for _, s := range rightSources() {
		for _, n := range rightBounds() {
			for _, attempts := range wrongAttempts() {
				checkRefused(t, s, n, attempts)
			}
		}
	}
}

// guarded is a copy of b with other bytes ahead of it, and room behind its length; the second result tells if all of them are as they were.
func guarded(b []byte) ([]byte, func() bool) {
	all := bytes.Repeat([]byte{0xa5}, len(b)+200)
	copy(all[100:], b)
	was := bytes.Clone(all)
	return all[100 : 100+len(b)], func() bool { return bytes.Equal(all, was) }
}

func TestWhatIsHandedInStays(t *testing.T) { // P8.1
	for n := range 12 {
		b, kept := guarded(bytes.Repeat([]byte{0xfb}, n))
		for _, bits := range []uint64{0, 1, uint64(8 * n), uint64(8*n) + 1} {
			for _, kind := range []int{api.SrcTape, api.SrcStream, 3} {
				s := api.Source{Kind: kind, Tape: b, Bits: bits, Seed: seeds()[1], Domain: 9}
				was := s
				for _, bound := range []uint64{0, 1, 5, 1 << 62, 1 << 63} {
					for _, attempts := range []int{0, 1, 2, 64, 65} {
						_, next, _ := Draw(s, bound, attempts)
						Draw(next, 3, 2)
					}
				}
				if !alike(s, was) {
					t.Errorf("%v became %v", was, s)
				}
			}
		}
		if !kept() {
			t.Errorf("%d bytes: what was handed in has changed", n)
		}
	}
}

func TestDrawnAgain(t *testing.T) { // P8.1: a call hangs on its arguments alone
	for _, s := range rightSources() {
		for _, n := range []uint64{0, 1, 5, 1025, 1<<62 + 1} {
			x, first, e := Draw(s, n, 2)
			Draw(first, n, 64)
			Draw(streamAt(seeds()[0], 77, 300), 1000, 64)
			if y, second, f := Draw(s, n, 2); x != y || e != f || !alike(first, second) {
				t.Errorf("Draw(%v, %d, 2): %d, %d, then %d, %d", s, n, x, int(e), y, int(f))
			}
		}
	}
}

func TestDrawnOneBehindTheOther(t *testing.T) { // P8.1: each draw goes on where the one ahead ended, whatever came of it
	text := strings.Repeat("111 110 100 011 1 0 ", 9)
	s, left := tapeOf(text), strings.ReplaceAll(text, " ", "")
	for i := range 200 {
		n := []uint64{5, 2, 7, 1, 3, 9}[i%6]
		want, read, wantErr := model(t, left, n, 2)
		is(t, s, n, 2, want, read, wantErr)
		_, s, _ = Draw(s, n, 2)
		left = left[read:]
	}
	if s.At == 0 || len(left) > 3 {
		t.Error("not all was read:", s.At, left)
	}
}

// all is of all tapes of k times m bits how many draw each number below n, and how many nothing.
func all(t *testing.T, n uint64, k, m int) ([]int64, int64) {
	t.Helper()
	drawn, lost := make([]int64, n), int64(0)
	bits := uint64(k * m)
	for v := range uint64(1) << bits {
		var b [8]byte
		binary.BigEndian.PutUint64(b[:], v<<(63-bits)<<1)
		x, next, e := Draw(tapeAt(b[:], bits, 0), n, m)
		switch {
		case e == api.OK && x < n && next.At <= bits:
			drawn[x]++
		case e == api.ErrDraws && x == 0 && next.At == bits:
			lost++
		default:
			t.Errorf("below %d, of %b: %d, %v, %d", n, v, x, next, int(e))
		}
	}
	return drawn, lost
}

// power is b to the m.
func power(b uint64, m int) *big.Int {
	return new(big.Int).Exp(new(big.Int).SetUint64(b), big.NewInt(int64(m)), nil)
}

func TestEvenly(t *testing.T) { // P8.2
	numbers := []uint64{511, 512, 513, 1000, 1023, 1024, 1025, 4097, 10000, 16383, 16384}
	for n := range uint64(299) {
		numbers = append(numbers, n+1)
	}
	for _, n := range numbers {
		k := bitsOf(n)
		for m := 1; k*m <= 14 && m <= api.MaxAttempts; m++ {
			wantLost := power(1<<k-n, m)
			each, left := new(big.Int).DivMod(new(big.Int).Sub(power(1<<k, m), wantLost), new(big.Int).SetUint64(n), new(big.Int))
			if left.Sign() != 0 {
				t.Fatal("the chapter's number isn't whole:", n, m)
			}
			drawn, lost := all(t, n, k, m)
			if wantLost.Cmp(big.NewInt(lost)) != 0 {
				t.Errorf("below %d, by %d attempts: %d draw nothing, want %d", n, m, lost, wantLost)
			}
			for x, count := range drawn {
				if each.Cmp(big.NewInt(count)) != 0 {
					t.Errorf("below %d, by %d attempts: %d draw %d, want %d", n, m, count, x, each)
				}
			}
		}
	}
}

func TestEvenlyByHand(t *testing.T) { // P8.2
	for _, c := range []struct {
		n          uint64
		k, m       int
		each, lost int64
	}{
		{1, 0, 1, 1, 0}, {1, 0, 64, 1, 0},
		{2, 1, 1, 1, 0}, {2, 1, 5, 16, 0},
		{3, 2, 1, 1, 1}, {3, 2, 2, 5, 1}, {3, 2, 3, 21, 1},
		{4, 2, 2, 4, 0},
		{5, 3, 1, 1, 3}, {5, 3, 2, 11, 9}, {5, 3, 3, 97, 27},
		{9, 4, 2, 23, 49}, {15, 4, 2, 17, 1}, {17, 5, 2, 47, 225},
	} {
		drawn, lost := all(t, c.n, c.k, c.m)
		if lost != c.lost {
			t.Errorf("below %d, by %d attempts: %d draw nothing, want %d", c.n, c.m, lost, c.lost)
		}
		for x, count := range drawn {
			if count != c.each {
				t.Errorf("below %d, by %d attempts: %d draw %d, want %d", c.n, c.m, count, x, c.each)
			}
		}
	}
}

// TestEvenlyOfGreatBounds counts, with the highest bits free and the lowest ones noughts, what the first attempt draws: each number of that form below the bound once, and nothing else.
func TestEvenlyOfGreatBounds(t *testing.T) { // P8.2
	for _, k := range []int{17, 32, 33, 48, 62, 63} {
		step := uint64(1) << (k - 10)
		for _, n := range []uint64{1<<(k-1) + 1, 3 << (k - 2), 1<<k - 1} {
			seen, lost := map[uint64]int{}, uint64(0)
			for v := range uint64(1024) {
				var b [8]byte
				binary.BigEndian.PutUint64(b[:], v<<54)
				x, _, e := Draw(tapeAt(b[:], uint64(k), 0), n, 1)
				if e == api.ErrDraws {
					lost++
					continue
				}
				seen[x]++
				if e != api.OK || seen[x] != 1 || x%step != 0 || x >= n {
					t.Errorf("below %d: %d, %d", n, x, int(e))
				}
			}
			if want := (n + step - 1) / step; uint64(len(seen)) != want || lost != 1024-want {
				t.Errorf("below %d: %d are drawn, want %d, and %d draw nothing", n, len(seen), want, lost)
			}
		}
	}
}
