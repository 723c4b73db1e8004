package keyhash

import (
	"bytes"
	"math"
	"testing"
)

// slow follows the words of the chapter step by step, and multiplies by adding.
func slow(key []byte) uint64 {
	h := uint64(14695981039346656037)
	for i := range len(key) {
		h = times(h^uint64(key[i]), 1099511628211)
	}
	h = h ^ (h >> 33)
	h = times(h, 0xff51afd7ed558ccd)
	h = h ^ (h >> 33)
	h = times(h, 0xc4ceb9fe1a85ec53)
	h = h ^ (h >> 33)
	return h
}

// times returns the product of a and b modulo 2^64.
func times(a, b uint64) uint64 {
	product := uint64(0)
	for i := range 64 {
		if b>>i&1 == 1 {
			product += a << i
		}
	}
	return product
}

// noise returns n bytes without a visible pattern, the same ones each time.
func noise(n int, seed uint32) []byte {
	b := make([]byte, n)
	for i := range b {
		seed = seed*1664525 + 1013904223
		b[i] = byte(seed >> 24)
	}
	return b
}

// bitsFrom reads n bits of h one by one, from the bit low on.
func bitsFrom(h uint64, low, n int) int {
	sum := 0
	for i := range n {
		if h&(1<<(low+i)) != 0 {
			sum += 1 << i
		}
	}
	return sum
}

// hashes has hashes with the highest bit set and without it, and every hash of one bit.
func hashes() []uint64 {
	all := []uint64{0, math.MaxUint64, math.MaxInt64, 1<<63 + 1, 0xAAAAAAAAAAAAAAAA, 0x5555555555555555, 0x0123456789ABCDEF, 0xFEDCBA9876543210}
	for i := range 64 {
		all = append(all, 1<<i, ^uint64(1<<i))
	}
	for i := range 50 {
		all = append(all, Hash(noise(i, uint32(i))))
	}
	return all
}

func TestHashOfKnownKeys(t *testing.T) {
	for _, x := range []struct {
		key  string
		want uint64
	}{
		{"a", 0x82A2A958A9BECE5B},
		{"b", 0x6E673288764AD2D0},
		{"ab", 0xDA71CBD11DD9BDE4},
		{"ba", 0x0679519BE9CF602C},
		{"key", 0xCF8C79838F3B3030},
		{"foobar", 0x2C22194922D1672B},
		{"\x00", 0xB9034AD37056F5FB},
		{"\x00\x00", 0xDB01C3104E99566D},
		{"\x80", 0xFDE60E7528771881},
		{"\xff", 0x1BBD5C813C69A8D7},
		{"\xff\xff", 0x0992E16D4AF04425},
		{"The quick brown fox jumps over the lazy dog", 0x845B9FC148948E6B},
		{string(make([]byte, 255)), 0x8439D13DCBFC2F29},
		{string(bytes.Repeat([]byte{'x'}, 65536)), 0xF395C0BB29C3391E},
	} {
		if got := Hash([]byte(x.key)); got != x.want {
			t.Errorf("Hash(%.50q) = %016X, want %016X", x.key, got, x.want)
		}
	}
}

func TestHashOfTheEmptyKey(t *testing.T) {
	const want = 0xEFD01F60BA992926
	for _, key := range [][]byte{nil, {}, []byte("key")[:0], []byte("key")[3:]} {
		if got := Hash(key); got != want {
			t.Errorf("Hash(%#v) = %016X, want %016X", key, got, uint64(want))
		}
	}
}

func TestHashOfEveryByte(t *testing.T) {
	for i := range 256 {
		for _, key := range [][]byte{{byte(i)}, {byte(i), 'k'}, {'k', byte(i)}} {
			if got, want := Hash(key), slow(key); got != want {
				t.Errorf("Hash(%v) = %016X, want %016X", key, got, want)
			}
		}
	}
}

func TestHashOfEveryLength(t *testing.T) {
	for n := range 600 {
		key := noise(n, uint32(n))
		if got, want := Hash(key), slow(key); got != want {
			t.Errorf("Hash of %d bytes = %016X, want %016X", n, got, want)
		}
	}
	key := noise(1<<20, 1)
	if got, want := Hash(key), slow(key); got != want {
		t.Errorf("Hash of 2^20 bytes = %016X, want %016X", got, want)
	}
}

func TestHashLeavesTheKeyAlone(t *testing.T) {
	whole := noise(40, 5)
	old := bytes.Clone(whole)
	key := whole[10:20]
	first := Hash(key)
	if again := Hash(key); again != first {
		t.Errorf("%016X, and then %016X", first, again)
	}
	if !bytes.Equal(whole, old) {
		t.Error("the key, or what surrounds it, has changed")
	}
	if first != slow(old[10:20]) {
		t.Error("the spare capacity belongs to the hash")
	}
}

func TestHashDoesNotKeepTheKey(t *testing.T) {
	key := []byte("key")
	Hash(key)
	copy(key, "abc")
	if got, want := Hash(key), slow([]byte("abc")); got != want {
		t.Errorf("after a change of the key: %016X, want %016X", got, want)
	}
}

func TestHomeOfTheChapter(t *testing.T) {
	if got := Home(1<<63, 1); got != 1 {
		t.Errorf("Home(1<<63, 1) = %d", got)
	}
}

func TestHomeOfKnownHashes(t *testing.T) {
	for _, x := range []struct {
		h    uint64
		bits int
		want int
	}{
		{math.MaxUint64, 1, 1},
		{math.MaxUint64, 30, 1<<30 - 1},
		{math.MaxInt64, 1, 0},
		{math.MaxInt64, 30, 1<<29 - 1},
		{1 << 63, 30, 1 << 29},
		{1 << 34, 30, 1},
		{1<<34 - 1, 30, 0},
		{1 << 34, 29, 0},
		{0xCF8C79838F3B3030, 8, 0xCF},
		{0xCF8C79838F3B3030, 16, 0xCF8C},
		{0x0123456789ABCDEF, 12, 0x012},
		{0, 30, 0},
	} {
		if got := Home(x.h, x.bits); got != x.want {
			t.Errorf("Home(%X, %d) = %X, want %X", x.h, x.bits, got, x.want)
		}
	}
}

func TestHomeOfEveryNumberOfBits(t *testing.T) {
	for _, h := range hashes() {
		for bits := 1; bits <= 30; bits++ {
			if got, want := Home(h, bits), bitsFrom(h, 64-bits, bits); got != want {
				t.Errorf("Home(%X, %d) = %X, want %X", h, bits, got, want)
			}
		}
	}
}

func TestHomeOfOtherBits(t *testing.T) {
	others := []int{math.MinInt, math.MinInt + 1, -1 << 32, -64, -30, -1, 0, 31, 32, 33, 63, 64, 65, 128, 257, 1 << 32, 1<<32 + 1, math.MaxInt}
	for _, h := range hashes() {
		for _, bits := range others {
			if got := Home(h, bits); got != 0 {
				t.Errorf("Home(%X, %d) = %X, want 0", h, bits, got)
			}
		}
	}
}

func TestRowOfTheChapter(t *testing.T) {
	if got := Row(64, 1); got != 1 {
		t.Errorf("Row(64, 1) = %d", got)
	}
}

func TestRowOfKnownHashes(t *testing.T) {
	const h = 0xFFFFFFFFFF<<24 | 7<<18 | 63<<12 | 0<<6 | 42
	for row, want := range []int{42, 0, 63, 7} {
		if got := Row(h, row); got != want {
			t.Errorf("Row(%d) = %d, want %d", row, got, want)
		}
	}
}

func TestRowOfEveryRow(t *testing.T) {
	for _, h := range hashes() {
		for row := range 4 {
			if got, want := Row(h, row), bitsFrom(h, 6*row, 6); got != want {
				t.Errorf("Row(%X, %d) = %d, want %d", h, row, got, want)
			}
		}
	}
}

func TestRowOfOtherRows(t *testing.T) {
	others := []int{math.MinInt, math.MinInt + 1, -1 << 32, -4, -1, 4, 5, 6, 10, 11, 64, 256, 1 << 32, 1<<32 + 1, 1 << 62, math.MaxInt}
	for _, h := range hashes() {
		for _, row := range others {
			if got := Row(h, row); got != 0 {
				t.Errorf("Row(%X, %d) = %d, want 0", h, row, got)
			}
		}
	}
}
