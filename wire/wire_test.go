package wire

import (
	"bytes"
	"math"
	"testing"
)

// noWidths are widths that no number has.
var noWidths = []int{math.MinInt, -8, -1, 0, 9, 10, 16, 64, 1 << 32, 1<<32 + 1, math.MaxInt}

// slow splits n into width bytes by division, from the last one to the first.
func slow(n uint64, width int) []byte {
	b := make([]byte, width)
	for i := range b {
		b[width-1-i] = byte(n % 256)
		n /= 256
	}
	return b
}

// noise returns n bytes without a visible pattern, none of them 0.
func noise(n int) []byte {
	b := make([]byte, n)
	seed := uint32(n)
	for i := range b {
		seed = seed*1664525 + 1013904223
		b[i] = byte(seed>>24) | 1
	}
	return b
}

// expectBad reports an error unless r is bad and all of its reads return zero values.
func expectBad(t *testing.T, what string, r *Reader) {
	t.Helper()
	for range 2 {
		if r.Ok() {
			t.Errorf("%s: the flag is good", what)
		}
		if got := r.Rest(); got != 0 {
			t.Errorf("%s: Rest = %d", what, got)
		}
		for _, n := range []int{0, 1, 2, 8, -1} {
			if got := r.Num(n); got != 0 {
				t.Errorf("%s: Num(%d) = %d", what, n, got)
			}
			if got := r.Bytes(n); len(got) != 0 {
				t.Errorf("%s: Bytes(%d) = %v", what, n, got)
			}
			r.Zeros(n)
		}
	}
}

func TestPutOfTheChapter(t *testing.T) {
	if got := Put(nil, 258, 3); !bytes.Equal(got, []byte{0, 1, 2}) {
		t.Errorf("Put(nil, 258, 3) = %v", got)
	}
}

func TestPutOfEveryWidth(t *testing.T) {
	for _, n := range []uint64{0, 1, 255, 256, 65535, 1 << 31, 1<<32 - 1, 1 << 40, 1<<63 - 1, 1 << 63, math.MaxUint64, 0x0123456789ABCDEF} {
		for width := 1; width <= 8; width++ {
			for _, b := range [][]byte{nil, {}, {0}, {9, 8, 7}, noise(100)} {
				want := append(bytes.Clone(b), slow(n, width)...)
				if got := Put(b, n, width); !bytes.Equal(got, want) {
					t.Errorf("Put(%v, %X, %d) = %v, want %v", b, n, width, got, want)
				}
			}
		}
	}
}

func TestPutWithoutAWidth(t *testing.T) {
	for _, width := range noWidths {
		for _, b := range [][]byte{nil, {}, {0}, {9, 8, 7}} {
			if got := Put(b, math.MaxUint64, width); !bytes.Equal(got, b) {
				t.Errorf("Put(%v, width %d) = %v", b, width, got)
			}
		}
	}
}

func TestPutNeitherChangesNorSharesMemory(t *testing.T) {
	for _, width := range append([]int{1, 2, 8}, noWidths...) {
		whole := noise(40)
		old := bytes.Clone(whole)
		b := whole[10:20]
		first := Put(b, 1, width)
		want := bytes.Clone(first)
		second := Put(b, math.MaxUint64, width)
		if !bytes.Equal(whole, old) {
			t.Errorf("width %d: the slice, or what surrounds it, has changed", width)
		}
		clear(second[:cap(second)])
		if !bytes.Equal(first, want) || !bytes.Equal(whole, old) {
			t.Errorf("width %d: a result shares memory", width)
		}
		clear(whole)
		if !bytes.Equal(first, want) {
			t.Errorf("width %d: the result shares memory with the argument", width)
		}
	}
}

func TestPutAndNum(t *testing.T) {
	const n = 0xFEDCBA9876543210
	var b []byte
	for width := 1; width <= 8; width++ {
		b = Put(b, n, width)
	}
	r := NewReader(b)
	for width := 1; width <= 8; width++ {
		if got, want := r.Num(width), uint64(n)<<(64-8*width)>>(64-8*width); got != want {
			t.Errorf("width %d: %X, want %X", width, got, want)
		}
	}
	if !r.Ok() || r.Rest() != 0 {
		t.Error("the numbers do not fill the bytes")
	}
}

func TestReaderOfTheChapter(t *testing.T) {
	r := NewReader([]byte{1, 2, 3})
	if got := r.Num(2); got != 258 || !r.Ok() || r.Rest() != 1 {
		t.Errorf("Num(2) = %d, Rest = %d", got, r.Rest())
	}
	if got := r.Num(2); got != 0 {
		t.Errorf("Num(2) once more = %d", got)
	}
	expectBad(t, "after Num(2) once more", r)
}

func TestNewReader(t *testing.T) {
	for _, n := range []int{0, 1, 2, 64, 1000} {
		if r := NewReader(noise(n)); !r.Ok() || r.Rest() != n {
			t.Errorf("a new reader of %d bytes: %v, Rest %d", n, r.Ok(), r.Rest())
		}
	}
	if r := NewReader(nil); r == nil || !r.Ok() || r.Rest() != 0 {
		t.Error("a new reader of nil is not good")
	}
}

func TestNewReaderCopies(t *testing.T) {
	whole := noise(40)
	old := bytes.Clone(whole)
	r := NewReader(whole[10:20])
	again := NewReader(whole[10:20])
	clear(whole[10:15])
	if got := r.Bytes(10); !bytes.Equal(got, old[10:20]) {
		t.Errorf("the reader sees a change: %v", got)
	}
	if got := again.Num(8); got != NewReader(old[10:18]).Num(8) {
		t.Errorf("the other reader sees a change: %X", got)
	}
	copy(whole, old)
	r = NewReader(whole[10:20:30])
	r.Num(2)
	clear(r.Bytes(3))
	r.Zeros(1)
	if !bytes.Equal(whole, old) {
		t.Error("the reader changes the slice, or what surrounds it")
	}
}

func TestNumOfEveryWidth(t *testing.T) {
	b := []byte{255, 0, 128, 1, 2, 254, 77, 9, 200, 201}
	for at := range b {
		for width := 1; width <= min(8, len(b)-at); width++ {
			want := uint64(0)
			for _, x := range b[at : at+width] {
				want = want*256 + uint64(x)
			}
			r := NewReader(b)
			r.Bytes(at)
			if got := r.Num(width); got != want || !r.Ok() || r.Rest() != len(b)-at-width {
				t.Errorf("Num(%d) at %d = %d, want %d; Rest %d", width, at, got, want, r.Rest())
			}
		}
	}
}

func TestNumWithoutAWidth(t *testing.T) {
	for _, width := range noWidths {
		for _, n := range []int{0, 1, 100} {
			r := NewReader(noise(n))
			if got := r.Num(width); got != 0 {
				t.Errorf("Num(%d) = %d", width, got)
			}
			expectBad(t, "after Num without a width", r)
		}
	}
}

func TestNumOfMoreThanIsLeft(t *testing.T) {
	for left := range 8 {
		for width := left + 1; width <= 8; width++ {
			r := NewReader(noise(20))
			r.Bytes(20 - left)
			if got := r.Num(width); got != 0 {
				t.Errorf("Num(%d) of %d bytes = %d", width, left, got)
			}
			expectBad(t, "after Num of more than is left", r)
		}
	}
}

func TestBytes(t *testing.T) {
	b := noise(20)
	for at := range len(b) + 1 {
		for n := range len(b) - at + 1 {
			r := NewReader(b)
			r.Bytes(at)
			if got := r.Bytes(n); !bytes.Equal(got, b[at:at+n]) || !r.Ok() || r.Rest() != len(b)-at-n {
				t.Errorf("Bytes(%d) at %d = %v, Rest %d", n, at, got, r.Rest())
			}
		}
	}
}

func TestBytesAreCopies(t *testing.T) {
	b := []byte{1, 2, 3, 4, 5, 6}
	r := NewReader(b)
	first := r.Bytes(2)
	// The spare capacity of a result must not be the bytes that follow.
	clear(append(first, 9, 9, 9, 9))
	second := r.Bytes(2)
	clear(first)
	if !bytes.Equal(second, []byte{3, 4}) {
		t.Errorf("the second result is %v", second)
	}
	clear(second[:cap(second)])
	if got := r.Num(2); got != 5*256+6 {
		t.Errorf("the number behind is %d", got)
	}
	if !bytes.Equal(b, []byte{1, 2, 3, 4, 5, 6}) {
		t.Errorf("the argument is %v", b)
	}
}

func TestBytesOutOfRange(t *testing.T) {
	for _, x := range []struct{ left, n int }{
		{5, -1}, {5, -5}, {0, -1}, {5, math.MinInt}, {5, 6}, {0, 1}, {5, 1 << 32}, {5, 1<<32 + 1}, {5, math.MaxInt}, {5, math.MaxInt - 10},
	} {
		r := NewReader(noise(15))
		r.Bytes(15 - x.left)
		if got := r.Bytes(x.n); len(got) != 0 {
			t.Errorf("Bytes(%d) of %d = %v", x.n, x.left, got)
		}
		expectBad(t, "after Bytes out of range", r)
	}
}

func TestZeros(t *testing.T) {
	for n := range 12 {
		b := append(make([]byte, n), 7, 8)
		r := NewReader(b)
		r.Zeros(n)
		if !r.Ok() || r.Rest() != 2 || r.Num(2) != 7*256+8 {
			t.Errorf("Zeros(%d) does not move behind the zeros", n)
		}
		r = NewReader(b[:n])
		r.Zeros(n)
		if !r.Ok() || r.Rest() != 0 {
			t.Errorf("Zeros(%d) does not reach the end", n)
		}
	}
}

func TestZerosOfAnotherByte(t *testing.T) {
	for n := 1; n < 12; n++ {
		for at := range n {
			for _, x := range []byte{1, 128, 255} {
				b := make([]byte, n+3)
				b[at] = x
				r := NewReader(b)
				r.Zeros(n)
				expectBad(t, "after Zeros of another byte", r)
			}
		}
	}
}

func TestZerosOutOfRange(t *testing.T) {
	for _, x := range []struct{ left, n int }{
		{5, -1}, {5, -5}, {0, -1}, {5, math.MinInt}, {5, 6}, {0, 1}, {5, 1 << 32}, {5, 1<<32 + 1}, {5, math.MaxInt}, {5, math.MaxInt - 10},
	} {
		r := NewReader(make([]byte, 15))
		r.Bytes(15 - x.left)
		r.Zeros(x.n)
		expectBad(t, "after Zeros out of range", r)
	}
}

func TestReadsOfNothing(t *testing.T) {
	for n := range 3 {
		r := NewReader(noise(n))
		for range 3 {
			r.Zeros(0)
			if got := r.Bytes(0); len(got) != 0 {
				t.Errorf("Bytes(0) = %v", got)
			}
		}
		if !r.Ok() || r.Rest() != n {
			t.Errorf("reads of nothing: %v, Rest %d of %d", r.Ok(), r.Rest(), n)
		}
	}
}

func TestReadersAreIndependent(t *testing.T) {
	b := noise(10)
	x, y := NewReader(b), NewReader(b)
	x.Num(9)
	if !y.Ok() || y.Rest() != 10 {
		t.Error("a bad reader makes another one bad")
	}
	if got := y.Bytes(10); !bytes.Equal(got, b) {
		t.Errorf("the other reader returns %v", got)
	}
}

func TestNilReader(t *testing.T) {
	var r *Reader
	for _, n := range []int{math.MinInt, -1, 0, 1, 8, 9, math.MaxInt} {
		r.Zeros(n)
		if got := r.Num(n); got != 0 {
			t.Errorf("Num(%d) = %d", n, got)
		}
		if got := r.Bytes(n); got != nil {
			t.Errorf("Bytes(%d) = %v", n, got)
		}
	}
	if r.Ok() || r.Rest() != 0 {
		t.Error("a nil reader is good")
	}
}
