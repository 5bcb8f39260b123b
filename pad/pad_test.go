package pad

import (
	"bytes"
	"encoding/binary"
	"math"
	"math/big"
	"strings"
	"testing"
)

// edges are the lengths at which a padding begins a block of its own, or just doesn't yet.
var edges = []struct {
	n      int
	blocks uint64
}{{0, 1}, {1, 1}, {54, 1}, {55, 1}, {56, 2}, {57, 2}, {63, 2}, {64, 2}, {65, 2}, {118, 2}, {119, 2}, {120, 3}, {127, 3}, {128, 3}, {183, 3}, {184, 4}}

// message is n bytes that are unlike where they stand, so that a misplaced one shows; a mark and a nought are among them.
func message(n int) []byte {
	b := make([]byte, n)
	for i := range b {
		b[i] = byte(i*37 + i/256 + 128)
	}
	return b
}

// padded is the chapter's words, byte by byte: b stands behind n-len(b) bytes that were whole blocks.
func padded(b []byte, n uint64) []byte {
	l := append([]byte{}, b...)
	l = append(l, 128)
	for len(l)%64 != 56 {
		l = append(l, 0)
	}
	bits := new(big.Int).Mul(new(big.Int).SetUint64(n), big.NewInt(8))
	return append(l, bits.FillBytes(make([]byte, 8))...)
}

// guarded is n bytes of a message with other bytes ahead of it, and room behind its length; the second result tells if all of them are as they were.
func guarded(n int) ([]byte, func() bool) {
	all := bytes.Repeat([]byte{0xa5}, n+300)
	copy(all[100:], message(n))
	was := bytes.Clone(all)
	return all[100 : 100+n], func() bool { return bytes.Equal(all, was) }
}

// scribble writes over all that a list has room for.
func scribble(b []byte) {
	b = b[:cap(b)]
	for i := range b {
		b[i] ^= 0xff
	}
}

func TestBlocksByHand(t *testing.T) { // P2.1
	for _, c := range edges {
		if got := Blocks(uint64(c.n)); got != c.blocks {
			t.Errorf("Blocks(%d) = %d, want %d", c.n, got, c.blocks)
		}
	}
}

func TestBlocksAreTheFewestThatHoldIt(t *testing.T) { // P2.1
	l := []uint64{1 << 31, 1<<32 - 1, 1 << 32, 1<<40 + 2, 1 << 60}
	for n := range uint64(400) {
		l = append(l, n, 1<<40+n, 1<<61-1-n)
	}
	for _, n := range l {
		needs := new(big.Int).SetUint64(n)
		needs.Add(needs, big.NewInt(1+8))
		blocks, rest := new(big.Int).DivMod(needs, big.NewInt(64), new(big.Int))
		if rest.Sign() != 0 {
			blocks.Add(blocks, big.NewInt(1))
		}
		if got := Blocks(n); got != blocks.Uint64() {
			t.Errorf("Blocks(%d) = %d, want %v", n, got, blocks)
		}
	}
}

func TestBlocksOfTooLongMessages(t *testing.T) { // P2.1
	if got := Blocks(1<<61 - 1); got != 1<<55+1 {
		t.Errorf("of 2^61 - 1 bytes: %d", got)
	}
	for _, n := range tooLongs() {
		if got := Blocks(n); got != 0 {
			t.Errorf("Blocks(%d) = %d, want 0", n, got)
		}
	}
}

func tooLongs() []uint64 {
	l := []uint64{1<<61 + 1, 1<<62 + 3, 1<<63 - 1, 1 << 63, 1<<63 + 64}
	for n := range uint64(130) {
		l = append(l, 1<<61+n, math.MaxUint64-n)
	}
	return l
}

func TestTailByHand(t *testing.T) { // P2.1
	want := append([]byte("xy\x80"), make([]byte, 61)...)
	copy(want[56:], []byte{0, 0, 8, 0, 0, 0, 0, 16})
	if got, ok := Tail([]byte("xy"), 1<<40+2); !ok || !bytes.Equal(got, want) {
		t.Error(got, ok)
	}
	want = append([]byte{128}, make([]byte, 63)...)
	if got, ok := Tail(nil, 0); !ok || !bytes.Equal(got, want) {
		t.Error(got, ok)
	}
	copy(want[56:], []byte{255, 255, 255, 255, 255, 255, 254, 0})
	if got, ok := Tail([]byte{}, 1<<61-64); !ok || !bytes.Equal(got, want) {
		t.Error(got, ok)
	}
	got, ok := Tail(message(63), 1<<61-1)
	if !ok || len(got) != 128 || got[63] != 128 || !bytes.Equal(got[120:], []byte{255, 255, 255, 255, 255, 255, 255, 248}) {
		t.Error(got, ok)
	}
}

func TestTailOfEachRest(t *testing.T) { // P2.1
	for _, whole := range []uint64{0, 64, 128, 1 << 29, 1 << 32, 1<<40 + 192, 1 << 60, 1<<61 - 64} {
		for k := range 64 {
			rest, kept := guarded(k)
			n := whole + uint64(k)
			got, ok := Tail(rest, n)
			if want := padded(message(k), n); !ok || !bytes.Equal(got, want) {
				t.Errorf("Tail of %d bytes, n %d: %v, %v, want %v", k, n, got, ok, want)
			}
			if !kept() {
				t.Errorf("Tail of %d bytes, n %d: what was handed in has changed", k, n)
			}
		}
	}
}

func TestTailOfAnotherRest(t *testing.T) { // P2.1
	for _, n := range []uint64{0, 1, 2, 55, 56, 63, 64, 65, 119, 120, 128, 1 << 40, 1<<40 + 7, 1<<61 - 64, 1<<61 - 1} {
		for k := range 200 {
			if uint64(k) == n%64 {
				continue
			}
			rest, kept := guarded(k)
			if got, ok := Tail(rest, n); ok || len(got) != 0 {
				t.Errorf("Tail of %d bytes, n %d: %v, %v", k, n, got, ok)
			}
			if !kept() {
				t.Errorf("Tail of %d bytes, n %d: what was handed in has changed", k, n)
			}
		}
	}
}

func TestTailOfTooLongMessages(t *testing.T) { // P2.1
	for _, n := range tooLongs() {
		for _, k := range []uint64{n % 64, 0, 1} {
			rest, kept := guarded(int(k))
			if got, ok := Tail(rest, n); ok || len(got) != 0 {
				t.Errorf("Tail of %d bytes, n %d: %v, %v", k, n, got, ok)
			}
			if !kept() {
				t.Errorf("Tail of %d bytes, n %d: what was handed in has changed", k, n)
			}
		}
	}
}

func TestPadByHand(t *testing.T) { // P2.1
	abc := append([]byte{0x61, 0x62, 0x63, 0x80}, make([]byte, 52)...)
	abc = append(abc, 0, 0, 0, 0, 0, 0, 0, 24)
	if got := Pad([]byte("abc")); !bytes.Equal(got, abc) {
		t.Error(got)
	}
	none := append([]byte{128}, make([]byte, 63)...)
	if got := Pad(nil); !bytes.Equal(got, none) {
		t.Error(got)
	}
	if got := Pad([]byte{}); !bytes.Equal(got, none) {
		t.Error(got)
	}
	// 64 bytes are 512 bits, and the block that is added has no byte of the message.
	whole := append(message(64), 128)
	whole = append(whole, make([]byte, 61)...)
	whole = append(whole, 2, 0)
	if got := Pad(message(64)); !bytes.Equal(got, whole) {
		t.Error(got)
	}
}

func TestPadOfEachLength(t *testing.T) { // P2.1
	lengths := []int{4095, 4096, 65535, 65536, 1 << 21, 1<<21 + 56}
	for n := range 400 {
		lengths = append(lengths, n)
	}
	for _, n := range lengths {
		b, kept := guarded(n)
		if got := Pad(b); !bytes.Equal(got, padded(message(n), uint64(n))) {
			t.Errorf("Pad of %d bytes is another one", n)
		}
		if !kept() {
			t.Errorf("Pad of %d bytes: what was handed in has changed", n)
		}
	}
}

func TestCutByHand(t *testing.T) { // P2.1
	b := make([]byte, 130)
	for i := range b {
		b[i] = byte(i)
	}
	blocks, rest := Cut(b)
	if len(blocks) != 2 || blocks[0][0] != 0 || blocks[0][63] != 63 || blocks[1][0] != 64 || blocks[1][63] != 127 || !bytes.Equal(rest, []byte{128, 129}) {
		t.Error(blocks, rest)
	}
	for _, none := range [][]byte{nil, {}} {
		if blocks, rest := Cut(none); len(blocks) != 0 || len(rest) != 0 {
			t.Error(blocks, rest)
		}
	}
}

func TestCutOfEachLength(t *testing.T) { // P2.1
	for n := range 400 {
		b, kept := guarded(n)
		blocks, rest := Cut(b)
		if len(blocks) != n/64 || len(rest) != n%64 {
			t.Fatalf("Cut of %d bytes: %d blocks and %d bytes", n, len(blocks), len(rest))
		}
		var joined []byte
		for _, block := range blocks {
			joined = append(joined, block[:]...)
		}
		if joined = append(joined, rest...); !bytes.Equal(joined, message(n)) {
			t.Errorf("Cut of %d bytes, joined: %v", n, joined)
		}
		if !kept() {
			t.Errorf("Cut of %d bytes: what was handed in has changed", n)
		}
	}
}

func TestAnswersAreNewMemory(t *testing.T) { // P2.1, and what is handed in is neither kept nor shared
	for n := range 200 {
		b, kept := guarded(n)
		tail, _ := Tail(b[n-n%64:], uint64(n))
		all := Pad(b)
		blocks, rest := Cut(b)
		scribble(tail)
		scribble(all)
		scribble(rest)
		for i := range blocks {
			if [64]byte(message(n)[64*i:]) != blocks[i] {
				t.Errorf("of %d bytes: a block changes with another answer", n)
			}
			blocks[i] = [64]byte{}
		}
		if !kept() {
			t.Errorf("of %d bytes: who writes into an answer changes what was handed in", n)
		}
	}
}

func TestPaddedIsWholeBlocks(t *testing.T) { // P2.2
	for n := range 400 {
		b := message(n)
		p := Pad(b)
		blocks, behind := Cut(p)
		if len(blocks) == 0 || uint64(len(blocks)) != Blocks(uint64(n)) || len(behind) != 0 {
			t.Errorf("%d bytes, padded: %d blocks, and %d bytes behind; %d are told", n, len(blocks), len(behind), Blocks(uint64(n)))
		}
		before, rest := Cut(b)
		tail, ok := Tail(rest, uint64(n))
		if !ok || !bytes.Equal(tail, p[64*len(before):]) {
			t.Errorf("%d bytes: the tail isn't what stands behind the whole blocks of the padded message", n)
		}
	}
	for _, c := range edges {
		if got := len(Pad(message(c.n))); uint64(got) != 64*c.blocks {
			t.Errorf("%d bytes, padded: %d bytes, want %d blocks", c.n, got, c.blocks)
		}
	}
}

func TestTailIsAsManyBlocksAsAreLeft(t *testing.T) { // P2.2
	for _, whole := range []uint64{0, 1, 1 << 34, 1<<55 - 1} {
		for k := range 64 {
			n := 64*whole + uint64(k)
			tail, ok := Tail(message(k), n)
			if !ok || len(tail)%64 != 0 || whole+uint64(len(tail)/64) != Blocks(n) {
				t.Errorf("n %d: a tail of %d bytes, %d blocks in all", n, len(tail), Blocks(n))
			}
		}
	}
}

// alike are messages that differ by bytes as a padding has them: marks, noughts, lengths, and whole paddings.
func alike() []string {
	l := []string{""}
	for from := 0; len(l) < 1000; {
		to := len(l)
		for _, s := range l[from:to] {
			for _, c := range []string{"\x00", "\x80", "\x08", "a"} {
				l = append(l, s+c)
			}
		}
		from = to
	}
	for n := range 200 {
		l = append(l, strings.Repeat("b", n), strings.Repeat("b", n)+"\x80", strings.Repeat("b", n)+"\x80\x00")
		l = append(l, string(padded(message(n), uint64(n))), string(message(n)))
		if n > 8 {
			l = append(l, strings.Repeat("\x00", n), strings.Repeat("\x80", n))
		}
	}
	return l
}

func TestUnlikeStayUnlike(t *testing.T) { // P2.2
	of := map[string]string{}
	for _, s := range alike() {
		p := string(Pad([]byte(s)))
		if other, ok := of[p]; ok && other != s {
			t.Errorf("%q and %q are the same, padded", other, s)
		}
		of[p] = s
	}
	if len(of) < 2000 {
		t.Errorf("only %d messages", len(of))
	}
}

func TestPaddedTellsItsMessage(t *testing.T) { // P2.2: what can be read back is unlike
	for _, s := range alike() {
		p := Pad([]byte(s))
		n := binary.BigEndian.Uint64(p[len(p)-8:]) / 8
		if n != uint64(len(s)) || string(p[:n]) != s {
			t.Errorf("%q comes back as %q", s, p[:min(n, uint64(len(p)))])
		}
	}
}

func TestUnlikeTailsStayUnlike(t *testing.T) { // P2.2, of messages too long to be held
	of := map[string]uint64{}
	for _, blocks := range []uint64{0, 1, 2, 3, 1 << 23, 1 << 31, 1 << 34, 1 << 54, 1<<55 - 1} {
		for k := range uint64(64) {
			n := 64*blocks + k
			tail, ok := Tail(make([]byte, k), n)
			if other, twice := of[string(tail)]; !ok || twice {
				t.Errorf("tails of %d and of %d noughts: %v", n, other, ok)
			}
			of[string(tail)] = n
		}
	}
}
