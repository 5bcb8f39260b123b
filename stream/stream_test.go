package stream

import (
	"bytes"
	"crypto/sha256"
	"encoding/binary"
	"encoding/hex"
	"math"
	"math/big"
	"testing"

	"drawlot/api"
)

// seeds are noughts, ones, bytes that are unlike where they stand (so that a misplaced one shows), and a hash.
func seeds() []api.Hash {
	var noughts, ones, counted api.Hash
	for i := range counted {
		ones[i] = 255
		counted[i] = byte(i + 1)
	}
	return []api.Hash{noughts, ones, counted, sha256.Sum256([]byte("seed"))}
}

// numbers are the edges of 64 bits, of 32, and numbers whose bytes are all unlike.
func numbers() []uint64 {
	l := []uint64{0, 1, 2, 255, 256, 1<<32 - 1, 1 << 32, 1<<32 + 2, 1<<56 - 1, 1<<63 - 1, 1 << 63, math.MaxUint64 - 1, math.MaxUint64, 0x0102030405060708, 0xf1e2d3c4b5a69788}
	for i := range 8 {
		l = append(l, 1<<(8*i+3))
	}
	return l
}

// halves are the edges of 32 bits, each bit alone, and numbers whose bytes are all unlike; none stands there twice.
func halves() []uint32 {
	l := []uint32{0, 3, 255, 257, 1<<16 - 1, 1<<31 - 1, math.MaxUint32 - 1, math.MaxUint32, 0x01020304, 0xfedcba98}
	for i := range 32 {
		l = append(l, 1<<i)
	}
	return l
}

// blockOf is the chapter's words, by the library's hash of one list.
func blockOf(seed api.Hash, domain, i uint64) api.Hash {
	b := append([]byte(nil), seed[:]...)
	b = binary.BigEndian.AppendUint64(b, domain)
	b = binary.BigEndian.AppendUint64(b, i)
	return sha256.Sum256(b)
}

// bitOf is the bit of the number n: of a block as one number of 256 bits the highest one is the first.
func bitOf(seed api.Hash, domain, n uint64) uint64 {
	at, in := new(big.Int).DivMod(new(big.Int).SetUint64(n), big.NewInt(256), new(big.Int))
	block := blockOf(seed, domain, at.Uint64())
	return uint64(new(big.Int).SetBytes(block[:]).Bit(255 - int(in.Int64())))
}

// bytesOf is the first n bytes, by blocks that are taken till they are enough.
func bytesOf(seed api.Hash, domain uint64, n int) []byte {
	var b []byte
	for i := uint64(0); len(b) < n; i++ {
		block := blockOf(seed, domain, i)
		b = append(b, block[:]...)
	}
	return b[:n]
}

func TestDomainByHand(t *testing.T) { // P6.1
	for _, c := range []struct {
		kind, index uint32
		want        uint64
	}{
		{0, 0, 0},
		{1, 2, 1<<32 + 2},
		{2, 1, 1<<33 + 1},
		{0, math.MaxUint32, 1<<32 - 1},
		{math.MaxUint32, 0, 0xffffffff00000000},
		{math.MaxUint32, math.MaxUint32, math.MaxUint64},
		{0x01020304, 0x05060708, 0x0102030405060708},
		{0x80000000, 0x80000000, 0x8000000080000000},
	} {
		if got := Domain(c.kind, c.index); got != c.want {
			t.Errorf("Domain(%#x, %#x) = %#x, want %#x", c.kind, c.index, got, c.want)
		}
		if kind, index := Split(c.want); kind != c.kind || index != c.index {
			t.Errorf("Split(%#x) = %#x, %#x, want %#x, %#x", c.want, kind, index, c.kind, c.index)
		}
	}
}

func TestDomainAsBytes(t *testing.T) { // P6.1: the kind's bytes, and the index's behind them
	for _, kind := range halves() {
		for _, index := range halves() {
			b := binary.BigEndian.AppendUint32(binary.BigEndian.AppendUint32(nil, kind), index)
			want := binary.BigEndian.Uint64(b)
			if got := Domain(kind, index); got != want {
				t.Errorf("Domain(%#x, %#x) = %#x, want %#x", kind, index, got, want)
			}
		}
	}
	for _, d := range numbers() {
		b := binary.BigEndian.AppendUint64(nil, d)
		kind, index := Split(d)
		if kind != binary.BigEndian.Uint32(b[:4]) || index != binary.BigEndian.Uint32(b[4:]) {
			t.Errorf("Split(%#x) = %#x, %#x", d, kind, index)
		}
	}
}

func TestDomainsApart(t *testing.T) { // P6.2
	seen := map[uint64][2]uint32{}
	for _, kind := range halves() {
		for _, index := range halves() {
			d := Domain(kind, index)
			if was, ok := seen[d]; ok {
				t.Errorf("%#x and %#x, %#x are both the domain %#x", was, kind, index, d)
			}
			seen[d] = [2]uint32{kind, index}
		}
	}
}

func TestDomainsThereAndBack(t *testing.T) { // P6.2
	for _, kind := range halves() {
		for _, index := range halves() {
			if k, i := Split(Domain(kind, index)); k != kind || i != index {
				t.Errorf("%#x, %#x come back as %#x, %#x", kind, index, k, i)
			}
		}
	}
	l := numbers()
	x := uint64(1)
	for range 1000 {
		x = x*6364136223846793005 + 1442695040888963407
		l = append(l, x)
	}
	for i := range 64 {
		l = append(l, 1<<i, ^uint64(1<<i))
	}
	for _, d := range l {
		if got := Domain(Split(d)); got != d {
			t.Errorf("%#x comes back as %#x", d, got)
		}
	}
}

func TestBlockByHand(t *testing.T) { // P6.1: made outside of the project
	l := seeds()
	noughts, ones, counted := l[0], l[1], l[2]
	for _, c := range []struct {
		seed      api.Hash
		domain, i uint64
		want      string
	}{
		{noughts, 0, 0, "17b0761f87b081d5cf10757ccc89f12be355c70e2e29df288b65b30710dcbcd1"},
		{noughts, 0, 1, "86f77354f38f799c3e3d853dec927db2d921a6d80cc206b01b9d0cf485324fce"},
		{noughts, math.MaxUint64, 0, "ccebf13a992ca017fa7ea7393e9bb2fdf4bfb01ae0c05851befe8fbd260c608f"},
		{noughts, 0, math.MaxUint64, "295f0550700c823bbc7be8fbc5234afecfbeb2e137befd113f85178237ab57ab"},
		{counted, 1<<32 + 2, 0, "a799b6a0c0d795047c2639007d906dab5038bad24a4b2e003920b8a14fa43395"},
		{counted, 0x0102030405060708, 0x1112131415161718, "c017005797a4c68a2fcec0b23e4ad19c8c7385fd63f5529a33bc5ce1b6585134"},
		{ones, math.MaxUint64, math.MaxUint64, "80a76a18acf8cb64fec3a659ffc4bab4a87cd9a6fde4dab2161a8751d136c9d2"},
	} {
		if got := Block(c.seed, c.domain, c.i); hex.EncodeToString(got[:]) != c.want {
			t.Errorf("Block(%x, %#x, %#x) = %x, want %s", c.seed, c.domain, c.i, got, c.want)
		}
	}
}

func TestBlockOfEachNumber(t *testing.T) { // P6.1
	for _, seed := range seeds() {
		for _, domain := range numbers() {
			for _, i := range numbers() {
				if got, want := Block(seed, domain, i), blockOf(seed, domain, i); got != want {
					t.Errorf("Block(%x, %#x, %#x) = %x, want %x", seed, domain, i, got, want)
				}
			}
		}
	}
}

func TestBlocksHangOnAllBits(t *testing.T) { // P6.1: each bit of what a block is of counts
	seed := seeds()[2]
	const domain, at = 0x0102030405060708, 0x1112131415161718
	seen := map[api.Hash]bool{Block(seed, domain, at): true}
	for i := range 256 {
		other := seed
		other[i/8] ^= 1 << (i % 8)
		seen[Block(other, domain, at)] = true
	}
	for i := range 64 {
		seen[Block(seed, domain^1<<i, at)] = true
		seen[Block(seed, domain, at^1<<i)] = true
	}
	seen[Block(seed, at, domain)] = true
	if want := 1 + 256 + 2*64 + 1; len(seen) != want {
		t.Errorf("%d blocks, want %d", len(seen), want)
	}
}

// bitNumbers are those about the ends of bytes and of blocks, from the first one to the last one.
func bitNumbers() []uint64 {
	var l []uint64
	for n := range uint64(600) {
		l = append(l, n, math.MaxUint64-n)
	}
	for i := 10; i < 64; i++ {
		for n := range uint64(9) {
			l = append(l, 1<<i+n, 1<<i-1-n)
		}
	}
	return l
}

func TestBitOfEachNumber(t *testing.T) { // P6.1
	for _, seed := range seeds() {
		for _, domain := range []uint64{0, 1<<32 + 2, math.MaxUint64} {
			for _, n := range bitNumbers() {
				if got, want := Bit(seed, domain, n), bitOf(seed, domain, n); got != want {
					t.Errorf("Bit(%x, %#x, %#x) = %d, want %d", seed, domain, n, got, want)
				}
			}
		}
	}
}

func TestBitByHand(t *testing.T) { // P6.1
	noughts := seeds()[0]
	// The stream of noughts begins with 17 b0, its first block ends with d1, its second one begins with 86.
	for _, c := range []struct {
		from uint64
		want []uint64
	}{
		{0, []uint64{0, 0, 0, 1, 0, 1, 1, 1, 1, 0, 1, 1, 0, 0, 0, 0}},
		{248, []uint64{1, 1, 0, 1, 0, 0, 0, 1, 1, 0, 0, 0, 0, 1, 1, 0}},
	} {
		for i, want := range c.want {
			if got := Bit(noughts, 0, c.from+uint64(i)); got != want {
				t.Errorf("the bit %d: %d, want %d", c.from+uint64(i), got, want)
			}
		}
	}
}

func TestBitIsThatOfItsByte(t *testing.T) { // P6.1
	for _, seed := range seeds() {
		b := Bytes(seed, 7, 4096)
		if len(b) != 4096 {
			t.Fatalf("%d bytes", len(b))
		}
		for n := range uint64(8 * len(b)) {
			if got, want := Bit(seed, 7, n), uint64(b[n/8]>>(7-n%8)&1); got != want {
				t.Errorf("of %x the bit %d: %d, want %d", seed, n, got, want)
			}
		}
	}
}

func TestBitIsThatOfItsBlock(t *testing.T) { // P6.1: far beyond the bytes that are told at once
	seed := seeds()[3]
	for _, i := range []uint64{0, 1, 127, 128, 1<<32 - 1, 1 << 32, 1<<56 - 2, 1<<56 - 1} {
		block := Block(seed, math.MaxUint64, i)
		var made api.Hash
		for n := range uint64(256) {
			made[n/8] = made[n/8]<<1 | byte(Bit(seed, math.MaxUint64, 256*i+n))
		}
		if made != block {
			t.Errorf("the block %#x, bit by bit: %x, want %x", i, made, block)
		}
	}
}

func TestBytesOfEachLength(t *testing.T) { // P6.1
	lengths := []int{255, 256, 257, 1000, 4063, 4064, 4065, 4094, 4095, 4096}
	for n := range 130 {
		lengths = append(lengths, n)
	}
	for _, seed := range seeds() {
		for _, domain := range []uint64{0, 9, 1<<32 + 2, math.MaxUint64} {
			for _, n := range lengths {
				if got, want := Bytes(seed, domain, n), bytesOf(seed, domain, n); !bytes.Equal(got, want) {
					t.Errorf("%d bytes of %x, %#x: %x, want %x", n, seed, domain, got, want)
				}
			}
		}
	}
}

func TestBytesAreBlocks(t *testing.T) { // P6.1: one behind the other
	seed := seeds()[3]
	b := Bytes(seed, 9, 4096)
	if len(b) != 4096 {
		t.Fatalf("%d bytes", len(b))
	}
	for i := range 128 {
		block := Block(seed, 9, uint64(i))
		if !bytes.Equal(b[32*i:32*i+32], block[:]) {
			t.Errorf("the block %d: %x, want %x", i, b[32*i:32*i+32], block)
		}
	}
	for _, n := range []int{0, 1, 31, 32, 33, 64, 4095} {
		if got := Bytes(seed, 9, n); !bytes.Equal(got, b[:n]) {
			t.Errorf("the first %d bytes aren't those of more", n)
		}
	}
}

func TestBytesByHand(t *testing.T) { // P6.1
	want := "17b0761f87b081d5cf10757ccc89f12be355c70e2e29df288b65b30710dcbcd1" + "86f77354f38f799c3e3d853dec927db2d921a6d80cc206b01b9d0cf485324fce"
	for _, n := range []int{1, 31, 32, 33, 63, 64} {
		if got := hex.EncodeToString(Bytes(api.Hash{}, 0, n)); got != want[:2*n] {
			t.Errorf("%d bytes: %s, want %s", n, got, want[:2*n])
		}
	}
}

func TestNoBytes(t *testing.T) { // P6.1
	for _, n := range []int{0, -1, -32, -4096, math.MinInt32, math.MinInt, 4097, 4098, 4128, 8192, math.MaxInt32, math.MaxInt - 31, math.MaxInt} {
		for _, seed := range seeds() {
			if got := Bytes(seed, 3, n); len(got) != 0 {
				t.Errorf("%d bytes: %d of them", n, len(got))
			}
		}
	}
}

func TestBytesAreCutWithTheirRoom(t *testing.T) { // P6.1: who appends to an answer gets nothing of the block's rest
	for _, n := range []int{0, 1, 31, 32, 33, 100, 4095, 4096} {
		if b := Bytes(seeds()[3], 9, n); cap(b) != n {
			t.Errorf("%d bytes have room for %d", n, cap(b))
		}
	}
}

func TestWhatIsHandedInStays(t *testing.T) { // P6.1
	for _, seed := range seeds() {
		was := seed
		Block(seed, 1, 2)
		Bit(seed, 1, 2)
		Bytes(seed, 1, 100)
		if seed != was {
			t.Errorf("%x became %x", was, seed)
		}
	}
}

func TestAnswersAreNew(t *testing.T) { // P6.1: what is written into an answer is in no other one, and not in the seed
	seed := seeds()[3]
	was := seed
	first, second := Bytes(seed, 9, 100), Bytes(seed, 9, 100)
	want := bytes.Clone(second)
	for i := range first {
		first[i] ^= 0xff
	}
	if !bytes.Equal(second, want) || !bytes.Equal(Bytes(seed, 9, 100), want) || seed != was {
		t.Error("what was written into an answer shows elsewhere")
	}
}

func TestStreamsApart(t *testing.T) { // P6.2: of unlike kinds and indexes the streams begin otherwise
	seed := seeds()[0]
	seen := map[string][2]uint32{}
	for kind := range uint32(20) {
		for index := range uint32(20) {
			b := string(Bytes(seed, Domain(kind, index), 32))
			if was, ok := seen[b]; ok {
				t.Errorf("%v and %d, %d have the same stream", was, kind, index)
			}
			seen[b] = [2]uint32{kind, index}
		}
	}
}
