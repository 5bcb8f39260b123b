package sha

import (
	"bytes"
	"crypto/sha256"
	"encoding/binary"
	"encoding/hex"
	"math"
	"strings"
	"testing"

	"drawlot/api"
	"drawlot/comp"
)

// edges are the lengths about which a rest becomes a block, or a padding needs one of its own.
var edges = []int{0, 1, 2, 54, 55, 56, 57, 62, 63, 64, 65, 66, 118, 119, 120, 127, 128, 129, 183, 184, 191, 192, 193}

// message is n bytes that are unlike where they stand, so that a lost, doubled or misplaced one shows.
func message(n int) []byte {
	b := make([]byte, n)
	for i := range b {
		b[i] = byte(i*37 + i/256 + 128)
	}
	return b
}

// guarded is a copy of b with other bytes ahead of it, and room behind its length; the second result tells if all of them are as they were.
func guarded(b []byte) ([]byte, func() bool) {
	all := bytes.Repeat([]byte{0xa5}, len(b)+300)
	copy(all[100:], b)
	was := bytes.Clone(all)
	return all[100 : 100+len(b)], func() bool { return bytes.Equal(all, was) }
}

// scribble writes over all that a list has room for.
func scribble(b []byte) {
	b = b[:cap(b)]
	for i := range b {
		b[i] ^= 0xff
	}
}

// someState is one that no message of the tests has.
func someState(seed uint32) api.State {
	var s api.State
	for i := range s {
		seed = seed*1664525 + 1013904223
		s[i] = seed
	}
	return s
}

// written is the chapter's words of a writer that takes b: all at once, its rest and b in one list.
func written(w api.Writer, b []byte) api.Writer {
	all := append(bytes.Clone(w.Rest), b...)
	s := w.State
	for len(all) >= 64 {
		s = comp.Take(s, [64]byte(all))
		all = all[64:]
	}
	return api.Writer{State: s, Rest: all, Bytes: w.Bytes + uint64(len(b))}
}

// finished is the chapter's words of a hash: the padding, byte by byte, is taken as a message is.
func finished(w api.Writer) api.Hash {
	padding := []byte{128}
	for (len(w.Rest)+len(padding))%64 != 56 {
		padding = append(padding, 0)
	}
	padding = binary.BigEndian.AppendUint64(padding, 8*w.Bytes)
	var h api.Hash
	for i, x := range written(w, padding).State {
		binary.BigEndian.PutUint32(h[4*i:], x)
	}
	return h
}

func mustWrite(t *testing.T, w api.Writer, b ...[]byte) api.Writer {
	t.Helper()
	next, e := Write(w, b...)
	if e != api.OK || !Right(next) {
		t.Fatalf("Write: %v, Right: %v", e, Right(next))
	}
	return next
}

func mustFinish(t *testing.T, w api.Writer) api.Hash {
	t.Helper()
	h, e := Finish(w)
	if e != api.OK {
		t.Fatalf("Finish: %v", e)
	}
	return h
}

// alike holds two writers against each other without the package's own call; a rest that holds nothing may be nil.
func alike(a, b api.Writer) bool {
	return a.State == b.State && a.Bytes == b.Bytes && string(a.Rest) == string(b.Rest)
}

func isZero(w api.Writer) bool { return alike(w, api.Writer{}) }

func TestSumByHand(t *testing.T) { // P5.1
	for s, want := range map[string]string{
		"":    "e3b0c44298fc1c149afbf4c8996fb92427ae41e4649b934ca495991b7852b855",
		"abc": "ba7816bf8f01cfea414140de5dae2223b00361a396177a9cb410ff61f20015ad",
		"abcdbcdecdefdefgefghfghighijhijkijkljklmklmnlmnomnopnopq":                                                         "248d6a61d20638b8e5c026930c3e6039a33ce45964ff2167f6ecedd419db06c1",
		"abcdefghbcdefghicdefghijdefghijkefghijklfghijklmghijklmnhijklmnoijklmnopjklmnopqklmnopqrlmnopqrsmnopqrstnopqrstu": "cf5b16a778af8380036ce59e7b0492370b249b11e8f07a51afac45037afee9d1",
	} {
		if h := Sum([]byte(s)); hex.EncodeToString(h[:]) != want {
			t.Errorf("Sum(%q) = %x, want %s", s, h, want)
		}
	}
}

func TestSumOfEachLength(t *testing.T) { // P5.1
	lengths := []int{4095, 4096, 65535, 65536, 1<<20 - 9, 1 << 20, 1<<20 + 56}
	for n := range 400 {
		lengths = append(lengths, n)
	}
	for _, n := range lengths {
		b, kept := guarded(message(n))
		if got, want := Sum(b), api.Hash(sha256.Sum256(message(n))); got != want {
			t.Errorf("Sum of %d bytes: %x, want %x", n, got, want)
		}
		if !kept() {
			t.Errorf("Sum of %d bytes: what was handed in has changed", n)
		}
	}
}

func TestSumOfNothing(t *testing.T) { // P5.1
	want := api.Hash(sha256.Sum256(nil))
	for i, pieces := range [][][]byte{nil, {}, {nil}, {{}}, {nil, nil}, {{}, nil, {}}, make([][]byte, 200)} {
		if got := Sum(pieces...); got != want {
			t.Errorf("%d: %x, want %x", i, got, want)
		}
	}
	if got := Sum(); got != want {
		t.Errorf("of no pieces: %x, want %x", got, want)
	}
}

func TestSumOfEmptyPiecesBetween(t *testing.T) { // P5.1
	for _, n := range edges {
		b := message(n)
		want := api.Hash(sha256.Sum256(b))
		if got := Sum(nil, b, []byte{}, nil); got != want {
			t.Errorf("%d bytes among empty pieces: %x, want %x", n, got, want)
		}
		if got := Sum(b[:n/2], nil, []byte{}, b[n/2:]); got != want {
			t.Errorf("%d bytes about empty pieces: %x, want %x", n, got, want)
		}
	}
}

func TestNew(t *testing.T) { // P5.1
	w := New()
	start := api.State{0x6a09e667, 0xbb67ae85, 0x3c6ef372, 0xa54ff53a, 0x510e527f, 0x9b05688c, 0x1f83d9ab, 0x5be0cd19}
	if w.State != start || len(w.Rest) != 0 || w.Bytes != 0 || !Right(w) {
		t.Error(w)
	}
	if got, want := mustFinish(t, w), api.Hash(sha256.Sum256(nil)); got != want {
		t.Errorf("%x, want %x", got, want)
	}
}

// counts are numbers of bytes: all small ones, and all near the ends of what a writer, and what a number, may have.
func counts() []uint64 {
	l := []uint64{1 << 31, 1 << 32, 1<<32 + 24, 1 << 60, 1 << 62, 1<<62 + 5, 1 << 63, 1<<63 + 63}
	for n := range uint64(200) {
		l = append(l, n, 1<<61-1-n, 1<<61+n, math.MaxUint64-n)
	}
	return l
}

// mayBe is the chapter's words.
func mayBe(rest int, n uint64) bool { return n < 1<<61 && uint64(rest) == n%64 }

func TestRight(t *testing.T) { // P5.1
	var few, many int
	for _, n := range counts() {
		for k := range 130 {
			rest, kept := guarded(message(k))
			w := api.Writer{State: someState(uint32(k)), Rest: rest, Bytes: n}
			want := mayBe(k, n)
			if got := Right(w); got != want {
				t.Errorf("Right of %d bytes with a rest of %d: %v", n, k, got)
			}
			if !kept() {
				t.Error("what was handed in has changed")
			}
			if want {
				few++
			} else {
				many++
			}
		}
	}
	if few == 0 || many == 0 {
		t.Error(few, many)
	}
}

func TestRightByHand(t *testing.T) { // P5.1
	for i, c := range []struct {
		rest int
		n    uint64
		want bool
	}{
		{0, 0, true}, {1, 1, true}, {63, 63, true}, {0, 64, true}, {1, 65, true}, {63, 1<<61 - 1, true}, {0, 1<<61 - 64, true},
		{64, 64, false}, {0, 1, false}, {1, 0, false}, {65, 1, false}, {64, 0, false}, {65, 65, false}, {128, 128, false},
		{0, 1 << 61, false}, {1, 1<<61 + 1, false}, {63, math.MaxUint64, false}, {62, 1<<61 - 1, false}, {0, 1 << 63, false},
	} {
		if got := Right(api.Writer{Rest: make([]byte, c.rest), Bytes: c.n}); got != c.want {
			t.Errorf("%d: %v", i, got)
		}
	}
	if !Right(api.Writer{}) || !Right(api.Writer{Rest: []byte{}}) {
		t.Error("a rest that holds nothing may be nil or empty")
	}
}

func TestWriteByHand(t *testing.T) { // P5.1
	w := mustWrite(t, New(), []byte("ab"), []byte("c"))
	if w.State != comp.Start() || string(w.Rest) != "abc" || w.Bytes != 3 {
		t.Error(w)
	}
	w = mustWrite(t, New(), message(130))
	want := comp.Take(comp.Take(comp.Start(), [64]byte(message(130))), [64]byte(message(130)[64:]))
	if w.State != want || !bytes.Equal(w.Rest, message(130)[128:]) || w.Bytes != 130 {
		t.Error(w)
	}
	w = mustWrite(t, mustWrite(t, New(), make([]byte, 63)), []byte{0})
	if w.State != comp.Take(comp.Start(), [64]byte{}) || len(w.Rest) != 0 || w.Bytes != 64 {
		t.Error(w)
	}
}

func TestWriteFromEachRest(t *testing.T) { // P5.1
	for k := range 64 {
		for _, n := range edges {
			rest, restKept := guarded(message(k))
			b, kept := guarded(message(n + 7)[7:])
			w := api.Writer{State: someState(uint32(n)), Rest: rest, Bytes: 64*uint64(n) + uint64(k)}
			got, e := Write(w, b)
			if want := written(w, b); e != api.OK || !alike(got, want) {
				t.Errorf("Write of %d bytes behind %d: %v, %v, want %v", n, k, got, e, want)
			}
			if got, want := mustFinish(t, w), finished(w); got != want {
				t.Errorf("Finish behind %d: %x, want %x", k, got, want)
			}
			if !restKept() || !kept() {
				t.Errorf("Write of %d bytes behind %d: what was handed in has changed", n, k)
			}
		}
	}
}

func TestWriteNothing(t *testing.T) { // P5.1
	for _, n := range edges {
		w := mustWrite(t, New(), message(n))
		for i, pieces := range [][][]byte{nil, {}, {nil}, {{}}, {{}, nil, {}}} {
			if got, e := Write(w, pieces...); e != api.OK || !alike(got, w) {
				t.Errorf("%d bytes, and nothing (%d): %v, %v", n, i, got, e)
			}
		}
	}
}

func TestFinishOfLongMessages(t *testing.T) { // P5.1
	for _, n := range counts() {
		if n >= 1<<61 {
			continue
		}
		w := api.Writer{State: someState(5), Rest: message(int(n % 64)), Bytes: n}
		if got, e := Finish(w); e != api.OK || got != finished(w) {
			t.Errorf("Finish of %d bytes: %x, %v, want %x", n, got, e, finished(w))
		}
	}
}

func TestWritersThatMayNotBe(t *testing.T) { // P5.1
	for _, n := range counts() {
		for _, k := range []int{int(n % 64), 0, 1, 24, 62, 63, 64, 65, 128} {
			if mayBe(k, n) {
				continue
			}
			rest, kept := guarded(message(k))
			w := api.Writer{State: comp.Start(), Rest: rest, Bytes: n}
			for i, pieces := range [][][]byte{nil, {nil}, {message(3)}, {message(40), message(200)}} {
				if got, e := Write(w, pieces...); e != api.ErrArg || !isZero(got) {
					t.Errorf("Write %d, %d bytes, a rest of %d: %v, %v", i, n, k, got, e)
				}
			}
			if got, e := Finish(w); e != api.ErrArg || got != (api.Hash{}) {
				t.Errorf("Finish, %d bytes, a rest of %d: %x, %v", n, k, got, e)
			}
			if !kept() {
				t.Errorf("%d bytes, a rest of %d: what was handed in has changed", n, k)
			}
		}
	}
}

// late is a writer that has room for so many bytes more, and not for one more than these.
func late(room uint64) api.Writer {
	n := 1<<61 - 1 - room
	return api.Writer{State: someState(uint32(room)), Rest: message(int(n % 64)), Bytes: n}
}

func TestWriteUpToTheEnd(t *testing.T) { // P5.1
	for room := range uint64(200) {
		w := late(room)
		b := message(int(room))
		for i, pieces := range [][][]byte{{b}, {b[:room/2], b[room/2:]}, {nil, b, {}}} {
			got, e := Write(w, pieces...)
			if want := written(w, b); e != api.OK || !alike(got, want) || got.Bytes != 1<<61-1 {
				t.Errorf("room %d, %d: %v, %v, want %v", room, i, got, e, want)
			}
			if full, e := Write(got, nil, []byte{}); e != api.OK || !alike(full, got) {
				t.Errorf("room %d, %d: nothing behind the end: %v, %v", room, i, full, e)
			}
			if h, e := Finish(got); e != api.OK || h != finished(got) {
				t.Errorf("room %d, %d: Finish: %x, %v", room, i, h, e)
			}
		}
	}
}

func TestWriteBeyondTheEnd(t *testing.T) { // P5.1
	for room := range uint64(200) {
		w, rest := late(room), message(int((1<<61-1-room)%64))
		for _, more := range []uint64{1, 2, 63, 64, 65, 1000} {
			b, kept := guarded(message(int(room + more)))
			for i, pieces := range [][][]byte{{b}, {b[:room], b[room:]}, {b[:1], nil, b[1:]}, {b, b, b}, {b, nil}, {nil, b}} {
				if got, e := Write(w, pieces...); e != api.ErrBig || !isZero(got) {
					t.Errorf("room %d, %d more, %d: %v, %v", room, more, i, got, e)
				}
			}
			if !kept() || !bytes.Equal(w.Rest, rest) {
				t.Errorf("room %d, %d more: what was handed in has changed", room, more)
			}
		}
	}
}

func TestWhatMayNotBeTellsFirst(t *testing.T) { // P5.1: ErrArg is named ahead of ErrBig
	w := late(3)
	w.Rest = w.Rest[1:]
	if got, e := Write(w, message(100)); e != api.ErrArg || !isZero(got) {
		t.Error(got, e)
	}
	over := api.Writer{State: comp.Start(), Bytes: 1 << 61}
	if got, e := Write(over, message(1)); e != api.ErrArg || !isZero(got) {
		t.Error(got, e)
	}
}

func TestPiecesAreLeftAsTheyWere(t *testing.T) { // P5.1
	for _, n := range edges {
		all, kept := guarded(message(3 * n))
		// The pieces lie in each other's spare room.
		pieces := [][]byte{all[:n], all[n : 2*n], all[2*n:], nil, all[:n]}
		was := make([][]byte, len(pieces))
		copy(was, pieces)
		want := append(message(3*n), message(n)...)
		if got := Sum(pieces...); got != api.Hash(sha256.Sum256(want)) {
			t.Errorf("pieces of %d bytes: %x", n, got)
		}
		if got := mustFinish(t, mustWrite(t, New(), pieces...)); got != api.Hash(sha256.Sum256(want)) {
			t.Errorf("pieces of %d bytes, written: %x", n, got)
		}
		for i := range pieces {
			if len(pieces[i]) != len(was[i]) || cap(pieces[i]) != cap(was[i]) {
				t.Errorf("pieces of %d bytes: the %d-th is another one", n, i)
			}
		}
		if !kept() {
			t.Errorf("pieces of %d bytes: what was handed in has changed", n)
		}
	}
}

func TestAnswersAreNewMemory(t *testing.T) { // P5.1, and what is handed in is neither kept nor shared
	for k := range 64 {
		for _, n := range edges {
			rest, restKept := guarded(message(k))
			b, kept := guarded(message(n))
			w := api.Writer{State: comp.Start(), Rest: rest, Bytes: uint64(k)}
			for _, pieces := range [][][]byte{nil, {nil}, {b}, {b, b}} {
				got := mustWrite(t, w, pieces...)
				scribble(got.Rest)
				if !restKept() || !kept() {
					t.Fatalf("%d bytes behind %d: who writes into an answer changes what was handed in", n, k)
				}
			}
			got := mustWrite(t, w, b)
			want := written(w, b)
			scribble(b)
			scribble(rest)
			if !alike(got, want) {
				t.Errorf("%d bytes behind %d: who writes into what was handed in changes the answer", n, k)
			}
		}
	}
}

func TestTextByHand(t *testing.T) { // P5.1
	var h api.Hash
	if got := Text(h); got != strings.Repeat("0", 64) {
		t.Error(got)
	}
	h[0], h[1], h[30], h[31] = 0x0f, 0xa0, 0x9b, 0xff
	if got := Text(h); got != "0fa0"+strings.Repeat("00", 28)+"9bff" {
		t.Error(got)
	}
	if got := Text(Sum([]byte("abc"))); got != "ba7816bf8f01cfea414140de5dae2223b00361a396177a9cb410ff61f20015ad" {
		t.Error(got)
	}
}

// hashes are each byte at each place among others, and hashes of messages.
func hashes() []api.Hash {
	var l []api.Hash
	for i := range 32 {
		for c := range 256 {
			h := api.Hash(message(32))
			h[i] = byte(c)
			l = append(l, h)
		}
	}
	for n := range 100 {
		l = append(l, sha256.Sum256(message(n)))
	}
	return append(l, api.Hash{}, api.Hash(bytes.Repeat([]byte{255}, 32)))
}

func TestTextAndParse(t *testing.T) { // P5.1
	for _, h := range hashes() {
		want := hex.EncodeToString(h[:])
		if got := Text(h); got != want {
			t.Errorf("Text(%x) = %q", h, got)
		}
		if got, e := Parse(want); e != api.OK || got != h {
			t.Errorf("Parse(%q) = %x, %v", want, got, e)
		}
	}
}

func TestHashesThereAndBack(t *testing.T) { // P5.3
	of := map[string]api.Hash{}
	for _, h := range hashes() {
		s := Text(h)
		if got, e := Parse(s); e != api.OK || got != h {
			t.Errorf("%x comes back as %x, %v", h, got, e)
		}
		if other, ok := of[s]; ok && other != h {
			t.Errorf("%x and %x have one text", h, other)
		}
		of[s] = h
	}
}

func TestTextsThereAndBack(t *testing.T) { // P5.3
	good := []byte("0123456789abcdef0123456789abcdef0123456789abcdef0123456789abcdef")
	for i := range good {
		for _, c := range []byte("0123456789abcdef") {
			s := bytes.Clone(good)
			s[i] = c
			h, e := Parse(string(s))
			if e != api.OK || Text(h) != string(s) {
				t.Errorf("%q comes back as %q, %v", s, Text(h), e)
			}
		}
	}
}

func refused(t *testing.T, s string) {
	t.Helper()
	if h, e := Parse(s); e != api.ErrForm || h != (api.Hash{}) {
		t.Errorf("Parse(%q) = %x, %v", s, h, e)
	}
}

func TestParseOfOtherLengths(t *testing.T) { // P5.1
	for n := range 300 {
		if n != 64 {
			refused(t, strings.Repeat("a", n))
		}
	}
	good := strings.Repeat("0f", 32)
	for _, s := range []string{"", " ", good[1:], good[:63], good + "0", " " + good, good + " ", good + "\n", good + "\x00", "0x" + good, good + good} {
		refused(t, s)
	}
}

func TestParseOfOtherDigits(t *testing.T) { // P5.1
	good := strings.Repeat("5e", 32)
	for i := range len(good) {
		for c := range 256 {
			if !strings.ContainsRune("0123456789abcdef", rune(c)) {
				refused(t, good[:i]+string([]byte{byte(c)})+good[i+1:])
			}
		}
	}
	refused(t, strings.ToUpper(good))
	refused(t, "0x"+good[2:])
	refused(t, "-1"+good[2:])
	// As many characters as a hash's text has bytes, or as many bytes: neither is one.
	refused(t, strings.Repeat("\u0660", 64))
	refused(t, strings.Repeat("\u0660", 32))
	refused(t, "\u0665"+good[2:])
}

func TestSame(t *testing.T) { // P5.1
	for _, n := range edges {
		w := mustWrite(t, New(), message(n))
		if !Same(w, w) || !Same(w, mustWrite(t, New(), message(n))) {
			t.Errorf("%d bytes: not the same", n)
		}
		for _, m := range edges {
			if other := mustWrite(t, New(), message(m)); Same(w, other) != (m == n) {
				t.Errorf("%d bytes and %d: %v", n, m, m != n)
			}
		}
	}
}

func TestSamePartByPart(t *testing.T) { // P5.1: of any writers, those that may not be too
	for _, n := range []uint64{0, 5, 64, 1 << 61, math.MaxUint64} {
		for _, k := range []int{0, 1, 5, 63, 64, 100} {
			one := func() api.Writer { return api.Writer{State: someState(9), Rest: message(k), Bytes: n} }
			a := one()
			differ := func(b api.Writer, what string) {
				t.Helper()
				if Same(a, b) || Same(b, a) {
					t.Errorf("%d bytes, a rest of %d: the same, though %s", n, k, what)
				}
			}
			if !Same(a, one()) {
				t.Errorf("%d bytes, a rest of %d: not the same", n, k)
			}
			for i := range 256 {
				b := one()
				b.State[i/32] ^= 1 << (i % 32)
				differ(b, "a bit of the state is another one")
			}
			for i := range 64 {
				b := one()
				b.Bytes ^= 1 << i
				differ(b, "a bit of the count is another one")
			}
			for i := range k {
				b := one()
				b.Rest[i]++
				differ(b, "a byte of the rest is another one")
			}
			b := one()
			b.Rest = append(b.Rest, 0)
			differ(b, "the rest has a byte more")
			if k > 0 {
				b.Rest = message(k - 1)
				differ(b, "the rest has a byte less")
			}
		}
	}
}

func TestSameOfNoRest(t *testing.T) { // P5.1: a rest that holds nothing may be nil or empty; spare room doesn't count
	none, empty, roomy := New(), New(), New()
	none.Rest, empty.Rest, roomy.Rest = nil, []byte{}, message(9)[:0]
	for _, a := range []api.Writer{none, empty, roomy} {
		for _, b := range []api.Writer{none, empty, roomy} {
			if !Same(a, b) {
				t.Error(a, b)
			}
		}
	}
	a, b := New(), New()
	a.Rest, b.Rest = message(9)[:4], message(4)
	if !Same(a, b) {
		t.Error(a, b)
	}
}

func TestEachCutInThree(t *testing.T) { // P5.2
	for _, n := range []int{0, 1, 55, 56, 63, 64, 65, 119, 120, 128, 130} {
		b := message(n)
		want := api.Hash(sha256.Sum256(b))
		for i := range n + 1 {
			for j := i; j <= n; j++ {
				if got := Sum(b[:i], b[i:j], b[j:]); got != want {
					t.Fatalf("%d bytes, cut at %d and %d, summed: %x", n, i, j, got)
				}
				if got := mustFinish(t, mustWrite(t, New(), b[:i], b[i:j], b[j:])); got != want {
					t.Fatalf("%d bytes, cut at %d and %d, written at once: %x", n, i, j, got)
				}
				w := mustWrite(t, mustWrite(t, mustWrite(t, New(), b[:i]), b[i:j]), b[j:])
				if got := mustFinish(t, w); got != want {
					t.Fatalf("%d bytes, cut at %d and %d, written one by one: %x", n, i, j, got)
				}
			}
		}
	}
}

func TestPiecesOfEachSize(t *testing.T) { // P5.2
	b := message(1000)
	want := api.Hash(sha256.Sum256(b))
	whole := mustWrite(t, New(), b)
	for size := 1; size <= 200; size++ {
		var pieces [][]byte
		w := New()
		for from := 0; from < len(b); from += size {
			piece := b[from:min(from+size, len(b))]
			pieces = append(pieces, piece)
			w = mustWrite(t, w, piece)
		}
		if got := Sum(pieces...); got != want {
			t.Errorf("pieces of %d, summed: %x", size, got)
		}
		if got := mustFinish(t, w); got != want || !Same(w, whole) {
			t.Errorf("pieces of %d, written one by one: %x, %v", size, got, w)
		}
		if at := mustWrite(t, New(), pieces...); !Same(at, whole) {
			t.Errorf("pieces of %d, written at once: %v", size, at)
		}
	}
}

func TestMixedCuts(t *testing.T) { // P5.2
	seed := uint32(1)
	next := func(n int) int {
		seed = seed*1664525 + 1013904223
		return int(seed>>8) % n
	}
	for range 300 {
		b := message(next(700))
		w := New()
		for from := 0; from < len(b); {
			var pieces [][]byte
			for range next(4) {
				to := min(from+next(150), len(b))
				pieces = append(pieces, b[from:to])
				from = to
			}
			w = mustWrite(t, w, pieces...)
			if got := mustFinish(t, w); got != api.Hash(sha256.Sum256(b[:from])) {
				t.Fatalf("%d bytes of %d: %x", from, len(b), got)
			}
		}
		if got := mustFinish(t, w); got != api.Hash(sha256.Sum256(b)) {
			t.Fatalf("%d bytes: %x", len(b), got)
		}
	}
}

func TestWritersGoOn(t *testing.T) { // P5.2: one that isn't finished, and one that was, twice
	b := message(300)
	w, never := New(), New()
	for i := range b {
		want := api.Hash(sha256.Sum256(b[:i]))
		if first, again := mustFinish(t, w), mustFinish(t, w); first != want || again != want {
			t.Fatalf("behind %d bytes: %x, %x, want %x", i, first, again, want)
		}
		w = mustWrite(t, w, b[i:i+1])
		never = mustWrite(t, never, b[i:i+1])
		if !Same(w, never) {
			t.Fatalf("behind %d bytes: a writer that was finished is another one", i+1)
		}
	}
	if got := mustFinish(t, never); got != api.Hash(sha256.Sum256(b)) {
		t.Errorf("%x", got)
	}
}

func TestWritersGoOnApart(t *testing.T) { // P5.2: of one writer two go on, each by its own bytes
	for _, n := range edges {
		w := mustWrite(t, New(), message(n))
		for _, more := range []int{1, 7, 63, 64, 65, 130} {
			ones, twos := bytes.Repeat([]byte{1}, more), bytes.Repeat([]byte{2}, more)
			a, b := mustWrite(t, w, ones), mustWrite(t, w, twos)
			for i, c := range []struct {
				w    api.Writer
				what []byte
			}{{a, append(message(n), ones...)}, {b, append(message(n), twos...)}, {w, message(n)}} {
				if got := mustFinish(t, c.w); got != api.Hash(sha256.Sum256(c.what)) {
					t.Errorf("%d bytes and %d more, %d: %x", n, more, i, got)
				}
			}
		}
	}
}
