package header

import (
	"bytes"
	"encoding/hex"
	"math"
	"slices"
	"testing"

	"flashcache/api"
	"flashcache/crc"
)

// used is the number of bytes of a payload that the numbers of a header take.
const used = 23

// sectors are numbers of sectors, the smallest and the greatest one among them.
var sectors = []int{0, 1, 2, 73, 74, 90, 255, 256, 258, 65535, 65536, 65537, 1 << 19, 0x90A0B, 1048574, 1048575}

// noSectors are numbers of no sector. Some of them have the same lowest bytes as one.
var noSectors = []int{-1, -2, -74, -1 << 20, -1 << 32, math.MinInt, math.MinInt + 1, 1048576, 1048577, 1 << 21, 1<<24 + 1, 1 << 31, 1<<32 - 1, 1 << 32, 1<<32 + 74, math.MaxInt}

// known has headers and their sectors, which another program made.
var known = []struct {
	h      api.Header
	sector int
	want   string
}{
	{api.Header{Version: 1, Slot: 2, Layout: 3, Seq: 4, Tail: 1, Now: 0}, 90, "010102000000030000000000040000000000010000000000000000000000000000000000000000000000000000000000000000000000000000000000080f1537"},
	{api.Header{Version: 1, Slot: 0, Layout: 1, Seq: 1, Tail: 0, Now: 0}, 74, "01010000000001000000000001000000000000000000000000000000000000000000000000000000000000000000000000000000000000000000000058c79474"},
	{api.Header{Version: 2, Slot: 15, Layout: 4294967295, Seq: 281474976710655, Tail: 281474976710655, Now: 549755813888}, 1048575, "01020fffffffffffffffffffffffffffffffff80000000000000000000000000000000000000000000000000000000000000000000000000000000006761f5f2"},
	{api.Header{Version: 1, Slot: 0, Layout: 1, Seq: 1, Tail: 1, Now: 0}, 0, "010100000000010000000000010000000000010000000000000000000000000000000000000000000000000000000000000000000000000000000000bb0b5b19"},
	{api.Header{Version: 2, Slot: 7, Layout: 258, Seq: 66051, Tail: 66050, Now: 16909060}, 65537, "010207000001020000000102030000000102020001020304000000000000000000000000000000000000000000000000000000000000000000000000c293ea01"},
	{api.Header{Version: 1, Slot: 9, Layout: 16909060, Seq: 1108152157446, Tail: 4328719365, Now: 4328719365}, 592395, "0101090102030401020304050600010203040501020304050000000000000000000000000000000000000000000000000000000000000000000000006a2595e2"},
	{api.Header{Version: 2, Slot: 11, Layout: 2147483648, Seq: 140737488355328, Tail: 0, Now: 549755813887}, 75, "01020b800000008000000000000000000000007fffffffff000000000000000000000000000000000000000000000000000000000000000000000000cdda111e"},
	{api.Header{Version: 1, Slot: 15, Layout: 65536, Seq: 281474976710655, Tail: 281474976710654, Now: 1}, 258, "01010f00010000fffffffffffffffffffffffe00000000010000000000000000000000000000000000000000000000000000000000000000000000003ac6b3b2"},
}

// noise returns n bytes without a visible pattern, the same ones each time.
func noise(n int, seed uint32) []byte {
	b := make([]byte, n)
	for i := range b {
		seed = seed*1664525 + 1013904223
		b[i] = byte(seed >> 24)
	}
	return b
}

// bigEndian splits n into width bytes by division.
func bigEndian(n uint64, width int) []byte {
	b := make([]byte, width)
	for i := range b {
		b[width-1-i] = byte(n % 256)
		n /= 256
	}
	return b
}

// seal returns the sector of this kind and payload, whatever they are, with a checksum that fits.
func seal(kind, salt, sector int, payload []byte) []byte {
	front := slices.Concat([]byte{byte(kind)}, payload, make([]byte, max(0, 59-len(payload))))
	sum := crc.Sum(slices.Concat(bigEndian(uint64(salt), 8), bigEndian(uint64(uint32(sector)), 4), front))
	return slices.Concat(front, bigEndian(uint64(sum), 4))
}

// numbers returns the numbers of h by the words of the chapter, also if h is not valid.
func numbers(h api.Header) []byte {
	return slices.Concat(bigEndian(uint64(h.Version), 1), bigEndian(uint64(h.Slot), 1), bigEndian(uint64(h.Layout), 4),
		bigEndian(uint64(h.Seq), 6), bigEndian(uint64(h.Tail), 6), bigEndian(uint64(h.Now), 5))
}

// slow encodes h by the words of the chapter, also if it is not valid.
func slow(h api.Header, sector int) []byte {
	return seal(1, 0, sector, numbers(h))
}

// change is a number of a header, set to one of its values that are valid or not, whatever the other numbers are.
type change struct {
	what string
	n    int
	set  func(h *api.Header, n int)
}

// apply returns h with the change.
func (c change) apply(h api.Header) api.Header {
	c.set(&h, c.n)
	return h
}

// wide are numbers whose lowest bytes are those of other numbers.
var wide = []int{math.MinInt, math.MinInt + 1, math.MinInt + 2, -1<<48 + 1, -1<<40 + 1, -1<<32 + 1, -255, -2, -1, 1<<48 + 1, 1 << 56, 1<<62 + 1, math.MaxInt - 1, math.MaxInt}

// changes returns a change for each of these values.
func changes(what string, set func(h *api.Header, n int), ns ...int) []change {
	var all []change
	for _, n := range ns {
		all = append(all, change{what, n, set})
	}
	return all
}

// defects returns changes that make every header invalid.
func defects() []change {
	version := func(h *api.Header, n int) { h.Version = n }
	slot := func(h *api.Header, n int) { h.Slot = n }
	layout := func(h *api.Header, n int) { h.Layout = n }
	seq := func(h *api.Header, n int) { h.Seq = n }
	tail := func(h *api.Header, n int) { h.Tail = n }
	tailAbove := func(h *api.Header, n int) { h.Tail = h.Seq + n }
	now := func(h *api.Header, n int) { h.Now = n }
	return slices.Concat(
		changes("Version", version, 0, 3, 4, 255, 256, 257, 258, 1<<16+1, 1<<32+1), changes("Version", version, wide...),
		changes("Slot", slot, 16, 17, 31, 255, 256, 257, 1<<32), changes("Slot", slot, wide...),
		changes("Layout", layout, 0, 1<<32, 1<<32+1, 1<<40), changes("Layout", layout, wide...),
		changes("Seq", seq, 0, 1<<48), changes("Seq", seq, wide...),
		changes("Tail above Seq", tailAbove, 1, 2, 256, 1<<48), changes("Tail", tail, wide...),
		changes("Now", now, 1<<39+1, 1<<39+2, 1<<40-1, 1<<40, 1<<40+1), changes("Now", now, wide...),
	)
}

// h0 is an ordinary header.
var h0 = api.Header{Version: 1, Slot: 2, Layout: 3, Seq: 4, Tail: 1}

// headers returns valid headers, with each number at both ends of its range and in the middle.
func headers() []api.Header {
	var all []api.Header
	for _, version := range []int{1, 2} {
		for _, slot := range []int{0, 1, 7, 14, 15} {
			for i, seq := range []int{1, 2, 255, 256, 258, 65536, 1<<32 + 1, 0x010203040506, 1 << 47, 1<<48 - 2, 1<<48 - 1} {
				layout := []int{1, 2, 255, 256, 258, 65536, 0x01020304, 1 << 31, 1<<32 - 2, 1<<32 - 1}
				now := []int{0, 1, 255, 256, 65536, 1<<32 - 1, 1 << 32, 0x0102030405, 1<<39 - 1, 1 << 39}
				for j, tail := range []int{0, 1, seq / 2, seq - 1, seq} {
					all = append(all, api.Header{Version: version, Slot: slot, Layout: layout[(slot+i)%10], Seq: seq, Tail: tail, Now: now[(slot+2*i+3*j)%10]})
				}
			}
		}
	}
	return all
}

// expectSector reports an error unless Encode returns want.
func expectSector(t *testing.T, h api.Header, sector int, want []byte) {
	t.Helper()
	if b, e := Encode(h, sector); e != api.OK || !bytes.Equal(b, want) {
		t.Errorf("Encode(%+v, %d) = %x, error %d; want %x", h, sector, b, e, want)
	}
}

// expectErrno reports an error unless Encode returns e, and no bytes.
func expectErrno(t *testing.T, h api.Header, sector int, e api.Errno) {
	t.Helper()
	if b, got := Encode(h, sector); got != e || len(b) != 0 {
		t.Errorf("Encode(%+v, %d) = %x, error %d, want %d", h, sector, b, got, e)
	}
}

// expectHeader reports an error unless Decode of b returns h.
func expectHeader(t *testing.T, b []byte, sector int, h api.Header) {
	t.Helper()
	if got, ok := Decode(b, sector); !ok || got != h {
		t.Errorf("Decode(%x, %d) = %+v, %v; want %+v", b, sector, got, ok, h)
	}
}

// expectNone reports an error unless Decode of b returns nothing.
func expectNone(t *testing.T, what string, b []byte, sector int) {
	t.Helper()
	if got, ok := Decode(b, sector); ok || got != (api.Header{}) {
		t.Errorf("%s: Decode(%x, %d) = %+v, %v", what, b, sector, got, ok)
	}
}

func TestKnownHeaders(t *testing.T) {
	for _, x := range known {
		want, err := hex.DecodeString(x.want)
		if err != nil || len(want) != 64 {
			t.Fatalf("%+v: a sector of %d bytes, %v", x.h, len(want), err)
		}
		expectSector(t, x.h, x.sector, want)
		expectHeader(t, want, x.sector, x.h)
	}
}

func TestExampleOfTheChapter(t *testing.T) {
	b, e := Encode(api.Header{Version: 1, Slot: 2, Layout: 3, Seq: 4, Tail: 1, Now: 0}, 74)
	if e != api.OK || len(b) != 64 || !bytes.Equal(b[1:13], []byte{1, 2, 0, 0, 0, 3, 0, 0, 0, 0, 0, 4}) {
		t.Errorf("Encode of the example = %x, error %d", b, e)
	}
}

func TestValidAtTheLimits(t *testing.T) {
	for _, x := range []struct {
		h    api.Header
		want bool
	}{
		{api.Header{Version: 0, Slot: 2, Layout: 3, Seq: 4}, false},
		{api.Header{Version: 1, Slot: 2, Layout: 3, Seq: 4}, true},
		{api.Header{Version: 2, Slot: 2, Layout: 3, Seq: 4}, true},
		{api.Header{Version: 3, Slot: 2, Layout: 3, Seq: 4}, false},
		{api.Header{Version: 1, Slot: -1, Layout: 3, Seq: 4}, false},
		{api.Header{Version: 1, Slot: 0, Layout: 3, Seq: 4}, true},
		{api.Header{Version: 1, Slot: 15, Layout: 3, Seq: 4}, true},
		{api.Header{Version: 1, Slot: 16, Layout: 3, Seq: 4}, false},
		{api.Header{Version: 1, Slot: 2, Layout: 0, Seq: 4}, false},
		{api.Header{Version: 1, Slot: 2, Layout: 1, Seq: 4}, true},
		{api.Header{Version: 1, Slot: 2, Layout: 4294967295, Seq: 4}, true},
		{api.Header{Version: 1, Slot: 2, Layout: 4294967296, Seq: 4}, false},
		{api.Header{Version: 1, Slot: 2, Layout: 3, Seq: 0}, false},
		{api.Header{Version: 1, Slot: 2, Layout: 3, Seq: 1}, true},
		{api.Header{Version: 1, Slot: 2, Layout: 3, Seq: 281474976710655}, true},
		{api.Header{Version: 1, Slot: 2, Layout: 3, Seq: 281474976710656}, false},
		{api.Header{Version: 1, Slot: 2, Layout: 3, Seq: 281474976710656, Tail: 281474976710656}, false},
		{api.Header{Version: 1, Slot: 2, Layout: 3, Seq: -1, Tail: -1}, false},
		{api.Header{Version: 1, Slot: 2, Layout: 3, Seq: 4, Tail: -1}, false},
		{api.Header{Version: 1, Slot: 2, Layout: 3, Seq: 4, Tail: 0}, true},
		{api.Header{Version: 1, Slot: 2, Layout: 3, Seq: 4, Tail: 4}, true},
		{api.Header{Version: 1, Slot: 2, Layout: 3, Seq: 4, Tail: 5}, false},
		{api.Header{Version: 1, Slot: 2, Layout: 3, Seq: 1, Tail: 2}, false},
		{api.Header{Version: 1, Slot: 2, Layout: 3, Seq: 281474976710655, Tail: 281474976710655}, true},
		{api.Header{Version: 1, Slot: 2, Layout: 3, Seq: 281474976710655, Tail: 281474976710656}, false},
		{api.Header{Version: 1, Slot: 2, Layout: 3, Seq: 4, Now: -1}, false},
		{api.Header{Version: 1, Slot: 2, Layout: 3, Seq: 4, Now: 0}, true},
		{api.Header{Version: 1, Slot: 2, Layout: 3, Seq: 4, Now: 549755813888}, true},
		{api.Header{Version: 1, Slot: 2, Layout: 3, Seq: 4, Now: 549755813889}, false},
		{api.Header{}, false},
	} {
		if got := Valid(x.h); got != x.want {
			t.Errorf("Valid(%+v) = %v", x.h, got)
		}
		if x.want {
			expectSector(t, x.h, 90, slow(x.h, 90))
			expectHeader(t, slow(x.h, 90), 90, x.h)
		} else {
			expectErrno(t, x.h, 90, api.ErrForm)
		}
	}
}

func TestValidHeaders(t *testing.T) {
	for i, h := range headers() {
		if !Valid(h) {
			t.Errorf("Valid(%+v) is false", h)
		}
		for _, sector := range []int{0, sectors[i%len(sectors)], 1048575} {
			want := slow(h, sector)
			expectSector(t, h, sector, want)
			expectHeader(t, want, sector, h)
		}
	}
}

// TestHeadersThatAreNotValid combines each defect with each header, and with sectors that frames refuse.
func TestHeadersThatAreNotValid(t *testing.T) {
	for i, h := range headers() {
		for j, c := range defects() {
			bad := c.apply(h)
			if Valid(bad) {
				t.Errorf("%s %d: Valid(%+v) is true", c.what, c.n, bad)
			}
			expectErrno(t, bad, sectors[(i+j)%len(sectors)], api.ErrForm)
			expectErrno(t, bad, noSectors[(i+j)%len(noSectors)], api.ErrForm)
		}
	}
}

// TestPairsOfDefects has headers with two defects: one does not make up for the other.
func TestPairsOfDefects(t *testing.T) {
	for _, c := range defects() {
		for _, d := range defects() {
			bad := d.apply(c.apply(h0))
			if Valid(bad) {
				t.Errorf("%s %d and %s %d: Valid(%+v) is true", c.what, c.n, d.what, d.n, bad)
			}
		}
	}
}

func TestSectorsThatFramesRefuse(t *testing.T) {
	for _, sector := range noSectors {
		for _, h := range headers() {
			expectErrno(t, h, sector, api.ErrRange)
		}
		expectErrno(t, api.Header{}, sector, api.ErrForm)
	}
}

// TestDecodeForSectorsThatFramesRefuse seals headers for them, by the bytes that Encode would return.
func TestDecodeForSectorsThatFramesRefuse(t *testing.T) {
	for _, h := range headers() {
		for _, sector := range noSectors {
			expectNone(t, "no sector", slow(h, sector), sector)
		}
	}
}

func TestDecodeForOtherSectors(t *testing.T) {
	for i, h := range headers() {
		sector := sectors[i%len(sectors)]
		b := slow(h, sector)
		for _, other := range slices.Concat(sectors, noSectors) {
			if other != sector {
				expectNone(t, "another sector", b, other)
			}
		}
		for bit := range 64 {
			expectNone(t, "a sector with another bit", b, sector^1<<bit)
		}
	}
}

func TestDecodeOfOtherLengths(t *testing.T) {
	for _, x := range known {
		whole := append(slow(x.h, x.sector), make([]byte, 64)...)
		for n := range len(whole) + 1 {
			if n != 64 {
				expectNone(t, "cut or longer", whole[:n], x.sector)
			}
		}
		expectHeader(t, whole[:64], x.sector, x.h)
		expectNone(t, "nil", nil, x.sector)
		expectNone(t, "nothing", []byte{}, x.sector)
		expectNone(t, "without its first byte", whole[1:64], x.sector)
		expectNone(t, "behind another byte", append([]byte{0}, whole[:64]...), x.sector)
		expectNone(t, "shifted", append([]byte{0}, whole[:63]...), x.sector)
		expectNone(t, "twice", slices.Concat(whole[:64], whole[:64]), x.sector)
		expectNone(t, "very long", append(whole, make([]byte, 1<<16)...), x.sector)
		expectNone(t, "the numbers alone", numbers(x.h), x.sector)
	}
}

func TestDecodeOfChangedBytes(t *testing.T) {
	for _, x := range known {
		b := slow(x.h, x.sector)
		for i := range b {
			for change := 1; change < 256; change++ {
				b[i] ^= byte(change)
				expectNone(t, "a changed byte", b, x.sector)
				b[i] ^= byte(change)
			}
		}
		expectHeader(t, b, x.sector, x.h)
	}
}

// TestDecodeOfOtherFrames seals the numbers of headers in frames of every other kind, and with other salts.
func TestDecodeOfOtherFrames(t *testing.T) {
	for _, x := range known {
		for kind := range 256 {
			if kind != 1 {
				expectNone(t, "another kind", seal(kind, 0, x.sector, numbers(x.h)), x.sector)
			}
		}
		for _, salt := range []int{1, 2, 255, 256, 1 << 32, math.MaxInt, -1, math.MinInt, x.h.Seq, x.h.Layout, x.sector + 1} {
			expectNone(t, "another salt", seal(1, salt, x.sector, numbers(x.h)), x.sector)
		}
	}
}

// TestDecodeOfForgedNumbers seals numbers that make no valid header.
func TestDecodeOfForgedNumbers(t *testing.T) {
	for i, h := range headers() {
		sector := sectors[i%len(sectors)]
		for _, bad := range []api.Header{
			{Version: 0, Slot: h.Slot, Layout: h.Layout, Seq: h.Seq, Tail: h.Tail, Now: h.Now},
			{Version: 3, Slot: h.Slot, Layout: h.Layout, Seq: h.Seq, Tail: h.Tail, Now: h.Now},
			{Version: 255, Slot: h.Slot, Layout: h.Layout, Seq: h.Seq, Tail: h.Tail, Now: h.Now},
			{Version: h.Version, Slot: 16, Layout: h.Layout, Seq: h.Seq, Tail: h.Tail, Now: h.Now},
			{Version: h.Version, Slot: 255, Layout: h.Layout, Seq: h.Seq, Tail: h.Tail, Now: h.Now},
			{Version: h.Version, Slot: h.Slot, Layout: 0, Seq: h.Seq, Tail: h.Tail, Now: h.Now},
			{Version: h.Version, Slot: h.Slot, Layout: h.Layout, Seq: 0, Tail: 0, Now: h.Now},
			{Version: h.Version, Slot: h.Slot, Layout: h.Layout, Seq: h.Seq - 1, Tail: h.Seq, Now: h.Now},
			{Version: h.Version, Slot: h.Slot, Layout: h.Layout, Seq: 1, Tail: 1<<48 - 1, Now: h.Now},
			{Version: h.Version, Slot: h.Slot, Layout: h.Layout, Seq: h.Seq, Tail: h.Tail, Now: 1<<39 + 1},
			{Version: h.Version, Slot: h.Slot, Layout: h.Layout, Seq: h.Seq, Tail: h.Tail, Now: 1<<40 - 1},
			{},
		} {
			expectNone(t, "forged numbers", slow(bad, sector), sector)
		}
		expectNone(t, "no numbers", seal(1, 0, sector, nil), sector)
		expectNone(t, "ones", seal(1, 0, sector, bytes.Repeat([]byte{255}, 59)), sector)
	}
}

// TestDecodeOfForgedBytes seals every value of every byte of the numbers, and compares with what the numbers then are.
func TestDecodeOfForgedBytes(t *testing.T) {
	for _, x := range known {
		p := numbers(x.h)
		for i := range p {
			for change := range 256 {
				p[i] ^= byte(change)
				h := api.Header{Version: int(p[0]), Slot: int(p[1]), Layout: sum(p[2:6]), Seq: sum(p[6:12]), Tail: sum(p[12:18]), Now: sum(p[18:23])}
				b := seal(1, 0, x.sector, p)
				if h.Version >= 1 && h.Version <= 2 && h.Slot <= 15 && h.Layout >= 1 && h.Seq >= 1 && h.Tail <= h.Seq && h.Now <= 1<<39 {
					expectHeader(t, b, x.sector, h)
				} else {
					expectNone(t, "forged bytes", b, x.sector)
				}
				p[i] ^= byte(change)
			}
		}
	}
}

// sum returns the number that bytes make up.
func sum(b []byte) int {
	n := 0
	for _, x := range b {
		n = n*256 + int(x)
	}
	return n
}

// TestDecodeOfForgedRests seals a payload with one byte that is not 0 behind the numbers.
func TestDecodeOfForgedRests(t *testing.T) {
	for _, x := range known {
		for i := used; i < 59; i++ {
			for _, change := range []byte{1, 2, 128, 255} {
				p := append(numbers(x.h), make([]byte, 59-used)...)
				p[i] = change
				expectNone(t, "a rest that is not 0", seal(1, 0, x.sector, p), x.sector)
			}
		}
		expectNone(t, "a rest of noise", seal(1, 0, x.sector, append(numbers(x.h), noise(59-used, 3)...)), x.sector)
		expectHeader(t, seal(1, 0, x.sector, append(numbers(x.h), make([]byte, 59-used)...)), x.sector, x.h)
	}
}

func TestDecodeOfArbitraryBytes(t *testing.T) {
	for _, sector := range slices.Concat(sectors, noSectors) {
		for n := range 130 {
			expectNone(t, "zeros", make([]byte, n), sector)
			expectNone(t, "ones", bytes.Repeat([]byte{255}, n), sector)
			b := noise(n, uint32(n))
			expectNone(t, "noise", b, sector)
			if n > 0 {
				b[0] = 1
				expectNone(t, "noise behind a kind", b, sector)
			}
		}
	}
}

func TestResultsOfEncodeShareNoMemory(t *testing.T) {
	for _, x := range known {
		first, _ := Encode(x.h, x.sector)
		second, _ := Encode(x.h, x.sector)
		clear(second[:cap(second)])
		if !bytes.Equal(first, slow(x.h, x.sector)) {
			t.Errorf("a result of Encode(%+v, %d) shares memory with another one", x.h, x.sector)
		}
		expectSector(t, x.h, x.sector, slow(x.h, x.sector))
	}
}

func TestDecodeLeavesItsArgumentAlone(t *testing.T) {
	for _, x := range known {
		whole := slices.Concat(noise(10, 6), slow(x.h, x.sector), noise(50, 7))
		old := bytes.Clone(whole)
		got, ok := Decode(whole[10:74], x.sector)
		Decode(whole[10:74], x.sector+1)
		Decode(whole[10:74], -1)
		Decode(whole[10:73], x.sector)
		Decode(whole[10:75], x.sector)
		Decode(whole, x.sector)
		if !bytes.Equal(whole, old) {
			t.Error("Decode changes its argument, or what surrounds it")
		}
		clear(whole)
		if !ok || got != x.h {
			t.Errorf("Decode = %+v, %v; want %+v", got, ok, x.h)
		}
		expectNone(t, "the same memory, cleared", whole[10:74], x.sector)
	}
}

func TestCallsDependOnNothingElse(t *testing.T) {
	for _, x := range known {
		want := slow(x.h, x.sector)
		for range 3 {
			expectSector(t, x.h, x.sector, want)
			expectHeader(t, want, x.sector, x.h)
			Encode(api.Header{Version: 2, Slot: 3, Layout: 9, Seq: 99, Tail: 98, Now: 97}, 96)
			expectErrno(t, api.Header{}, 0, api.ErrForm)
			expectNone(t, "in between", noise(64, 1), x.sector)
		}
	}
}
