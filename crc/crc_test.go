package crc

import (
	"bytes"
	"math"
	"testing"
)

// slow follows the words of the chapter bit by bit.
func slow(c uint32, b []byte) uint32 {
	c = ^c
	for _, x := range b {
		c ^= uint32(x)
		for range 8 {
			out := c & 1
			c >>= 1
			if out == 1 {
				c ^= 0x82F63B78
			}
		}
	}
	return ^c
}

// noise returns n bytes without a visible pattern, the same ones each time.
func noise(n int, seed uint32) []byte {
	b := make([]byte, n)
	for i := range b {
		seed = seed*1664525 + 1013904223
		b[i] = byte(seed >> 24)
	}
	return b
}

func TestSumOfKnownMessages(t *testing.T) {
	for _, x := range []struct {
		message string
		want    uint32
	}{
		{"", 0},
		{"a", 0xC1D04330},
		{"123456789", 0xE3069283},
		{"The quick brown fox jumps over the lazy dog", 0x22620404},
		{string(make([]byte, 32)), 0x8A9136AA},
		{string(bytes.Repeat([]byte{255}, 32)), 0x62A8AB43},
	} {
		if got := Sum([]byte(x.message)); got != x.want {
			t.Errorf("Sum(%q) = %08X, want %08X", x.message, got, x.want)
		}
	}
}

func TestSumOfEveryByte(t *testing.T) {
	for i := range 256 {
		b := []byte{byte(i)}
		if got, want := Sum(b), slow(0, b); got != want {
			t.Errorf("Sum(%v) = %08X, want %08X", b, got, want)
		}
	}
}

func TestSumOfEveryLength(t *testing.T) {
	for n := range 300 {
		b := noise(n, uint32(n))
		if got, want := Sum(b), slow(0, b); got != want {
			t.Errorf("Sum of %d bytes = %08X, want %08X", n, got, want)
		}
	}
}

func TestUpdateFromAnyChecksum(t *testing.T) {
	b := noise(70, 7)
	for _, c := range []uint32{0, 1, 77, 1 << 31, 0xE3069283, math.MaxUint32 - 1, math.MaxUint32} {
		if got, want := Update(c, b), slow(c, b); got != want {
			t.Errorf("Update(%08X) = %08X, want %08X", c, got, want)
		}
	}
}

func TestUpdateWithNothingKeepsTheChecksum(t *testing.T) {
	for _, c := range []uint32{0, 1, 77, 0xE3069283, math.MaxUint32} {
		for _, b := range [][]byte{nil, {}} {
			if got := Update(c, b); got != c {
				t.Errorf("Update(%08X, %#v) = %08X", c, b, got)
			}
		}
	}
	if Sum(nil) != 0 || Sum([]byte{}) != 0 {
		t.Error("Sum of the empty message is not 0")
	}
}

func TestUpdateInParts(t *testing.T) {
	b := noise(64, 3)
	want := Sum(b)
	for i := range len(b) + 1 {
		for k := i; k <= len(b); k++ {
			if got := Update(Update(Sum(b[:i]), b[i:k]), b[k:]); got != want {
				t.Errorf("parts at %d and %d: %08X, want %08X", i, k, got, want)
			}
		}
	}
}

func TestUpdateLeavesTheSliceAlone(t *testing.T) {
	whole := noise(40, 5)
	old := bytes.Clone(whole)
	first := Update(9, whole[10:20])
	if again := Update(9, whole[10:20]); again != first {
		t.Errorf("%08X, and then %08X", first, again)
	}
	if !bytes.Equal(whole, old) {
		t.Error("the slice, or what surrounds it, has changed")
	}
}

func TestCombineAtEverySplit(t *testing.T) {
	b := noise(200, 11)
	want := Sum(b)
	for i := range len(b) + 1 {
		if got := Combine(Sum(b[:i]), Sum(b[i:]), len(b)-i); got != want {
			t.Errorf("Combine after %d bytes: %08X, want %08X", i, got, want)
		}
	}
}

func TestCombineOfLongMessages(t *testing.T) {
	const most = 1048576
	lengths := []int{most - 1, most}
	for n := 1; n < most; n *= 2 {
		lengths = append(lengths, n-1, n, n+1)
	}
	first, second := []byte("the first message"), noise(most, 13)
	for _, n := range lengths {
		got := Combine(Sum(first), Sum(second[:n]), n)
		if want := Update(Sum(first), second[:n]); got != want {
			t.Errorf("Combine of %d bytes: %08X, want %08X", n, got, want)
		}
	}
}

func TestCombineWithTheEmptyMessage(t *testing.T) {
	for _, x := range []uint32{0, 1, 77, 0xE3069283, math.MaxUint32} {
		if got := Combine(x, 0, 0); got != x {
			t.Errorf("Combine(%08X, 0, 0) = %08X", x, got)
		}
	}
	for _, b := range [][]byte{{0}, []byte("123456789"), noise(1000, 17)} {
		if got, want := Combine(0, Sum(b), len(b)), Sum(b); got != want {
			t.Errorf("an empty message before %d bytes: %08X, want %08X", len(b), got, want)
		}
	}
}

func TestCombineOutOfRange(t *testing.T) {
	for _, n := range []int{math.MinInt, -1048576, -2, -1, 1048577, 1048578, 1 << 21, 1 << 32, 1<<32 + 1, math.MaxInt} {
		if got := Combine(0xE3069283, 0xC1D04330, n); got != 0 {
			t.Errorf("Combine with n = %d: %08X, want 0", n, got)
		}
	}
}
