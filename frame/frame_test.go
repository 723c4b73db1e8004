package frame

import (
	"bytes"
	"encoding/hex"
	"math"
	"slices"
	"testing"

	"flashcache/api"
	"flashcache/crc"
)

// text has as many bytes as a payload can have.
const text = "what a frame carries: a payload of fifty-nine bytes at most"

// kinds are the Kinds of frames.
var kinds = []int{1, 2, 3, 4}

// noKinds are Kinds of no frame. Some of them look like a Kind in their lowest bytes.
var noKinds = []int{math.MinInt, math.MinInt + 2, -255, -254, -4, -1, 0, 5, 6, 255, 256, 257, 258, 259, 260, 1<<32 + 1, 1<<62 + 4, math.MaxInt}

// salts are salts of frames, the smallest and the greatest one among them.
var salts = []int{0, 1, 255, 256, 258, 65535, 65536, 1<<24 + 1, math.MaxInt32, 1 << 31, 1<<32 - 1, 1 << 32, 1<<40 + 1, 1<<48 - 1, 1 << 56, 0x0102030405060708, math.MaxInt - 1, math.MaxInt}

// noSalts are salts of no frame.
var noSalts = []int{-1, -2, -255, -256, -1 << 31, -1 << 32, -math.MaxInt, math.MinInt + 1, math.MinInt}

// sectors are numbers of sectors, the smallest and the greatest one among them.
var sectors = []int{0, 1, 2, 73, 74, 255, 256, 258, 65535, 65536, 65537, 1 << 19, 0x90A0B, 1048574, 1048575}

// noSectors are numbers of no sector. Some of them have the same lowest bytes as one.
var noSectors = []int{-1, -2, -74, -1 << 20, -1 << 32, math.MinInt, math.MinInt + 1, 1048576, 1048577, 1 << 21, 1<<24 + 1, 1 << 31, 1<<32 - 1, 1 << 32, 1<<32 + 74, math.MaxInt}

// place is what a frame is bound to.
type place struct{ kind, salt, sector int }

// noise returns n bytes without a visible pattern, the same ones each time.
func noise(n int, seed uint32) []byte {
	b := make([]byte, n)
	for i := range b {
		seed = seed*1664525 + 1013904223
		b[i] = byte(seed >> 24)
	}
	return b
}

// bigEndian splits n into width bytes by division.
func bigEndian(n uint64, width int) []byte {
	b := make([]byte, width)
	for i := range b {
		b[width-1-i] = byte(n % 256)
		n /= 256
	}
	return b
}

// fill returns 59 bytes: the payload and zeros.
func fill(payload []byte) []byte {
	return append(bytes.Clone(payload), make([]byte, 59-len(payload))...)
}

// seal returns a sector with these first bytes, whatever they are, and a checksum that fits.
func seal(salt, sector int, front []byte) []byte {
	sum := crc.Sum(slices.Concat(bigEndian(uint64(salt), 8), bigEndian(uint64(uint32(sector)), 4), front))
	return slices.Concat(front, bigEndian(uint64(sum), 4))
}

// slow encodes a frame by the words of the chapter.
func slow(p place, payload []byte) []byte {
	return seal(p.salt, p.sector, slices.Concat([]byte{byte(p.kind)}, fill(payload)))
}

// payloads have every length, and zeros, ones and other bytes at their ends.
func payloads() [][]byte {
	all := [][]byte{nil, {}}
	for n := 1; n <= 59; n++ {
		all = append(all, noise(n, uint32(n)), make([]byte, n), bytes.Repeat([]byte{255}, n), []byte(text[:n]))
	}
	return all
}

// places has each kind, salt and sector.
func places() []place {
	var all []place
	for i := range max(len(kinds), len(salts), len(sectors)) {
		for _, kind := range kinds {
			all = append(all, place{kind, salts[i%len(salts)], sectors[i%len(sectors)]})
		}
	}
	return append(all, place{1, 0, 1048575}, place{2, math.MaxInt, 0}, place{4, math.MaxInt, 1048575})
}

// expectFrame reports an error unless Encode returns want.
func expectFrame(t *testing.T, p place, payload, want []byte) {
	t.Helper()
	if b, e := Encode(p.kind, p.salt, p.sector, payload); e != api.OK || !bytes.Equal(b, want) {
		t.Errorf("Encode(%v, %x) = %x, error %d; want %x", p, payload, b, e, want)
	}
}

// expectErrno reports an error unless Encode returns e, and no bytes.
func expectErrno(t *testing.T, p place, payload []byte, e api.Errno) {
	t.Helper()
	if b, got := Encode(p.kind, p.salt, p.sector, payload); got != e || len(b) != 0 {
		t.Errorf("Encode(%v, %d bytes) = %x, error %d, want %d", p, len(payload), b, got, e)
	}
}

// expectPayload reports an error unless Decode of b returns the payload, filled up with zeros.
func expectPayload(t *testing.T, p place, b, payload []byte) {
	t.Helper()
	if got, ok := Decode(p.kind, p.salt, p.sector, b); !ok || !bytes.Equal(got, fill(payload)) {
		t.Errorf("Decode(%v, %x) = %x, %v; want %x", p, b, got, ok, payload)
	}
}

// expectNone reports an error unless Decode of b returns nothing.
func expectNone(t *testing.T, what string, p place, b []byte) {
	t.Helper()
	if got, ok := Decode(p.kind, p.salt, p.sector, b); ok || got != nil {
		t.Errorf("%s: Decode(%v, %x) = %x, %v", what, p, b, got, ok)
	}
}

// TestKnownFrames has frames that another program made.
func TestKnownFrames(t *testing.T) {
	for _, x := range []struct {
		kind, salt, sector, n int
		want                  string
	}{
		{1, 0, 0, 0, "0100000000000000000000000000000000000000000000000000000000000000000000000000000000000000000000000000000000000000000000006a59fb90"},
		{1, 0, 74, 1, "01770000000000000000000000000000000000000000000000000000000000000000000000000000000000000000000000000000000000000000000004afa529"},
		{1, 0, 258, 58, "01776861742061206672616d6520636172726965733a2061207061796c6f6164206f662066696674792d6e696e65206279746573206174206d6f730063bfc5c3"},
		{1, 0, 1048575, 59, "01776861742061206672616d6520636172726965733a2061207061796c6f6164206f662066696674792d6e696e65206279746573206174206d6f73743971653e"},
		{2, 0, 0, 0, "020000000000000000000000000000000000000000000000000000000000000000000000000000000000000000000000000000000000000000000000f495177d"},
		{2, 1, 75, 1, "027700000000000000000000000000000000000000000000000000000000000000000000000000000000000000000000000000000000000000000000b3f5fd90"},
		{2, 258, 65537, 58, "02776861742061206672616d6520636172726965733a2061207061796c6f6164206f662066696674792d6e696e65206279746573206174206d6f730074f7f2f7"},
		{2, 9223372036854775807, 1048575, 59, "02776861742061206672616d6520636172726965733a2061207061796c6f6164206f662066696674792d6e696e65206279746573206174206d6f7374ef9ed8ac"},
		{3, 0, 0, 0, "030000000000000000000000000000000000000000000000000000000000000000000000000000000000000000000000000000000000000000000000812eb326"},
		{3, 0, 1, 1, "037700000000000000000000000000000000000000000000000000000000000000000000000000000000000000000000000000000000000000000000371a6e2e"},
		{3, 72623859790382856, 592395, 58, "03776861742061206672616d6520636172726965733a2061207061796c6f6164206f662066696674792d6e696e65206279746573206174206d6f7300dd1eba2c"},
		{3, 4611686018427387904, 1, 59, "03776861742061206672616d6520636172726965733a2061207061796c6f6164206f662066696674792d6e696e65206279746573206174206d6f7374295a49ca"},
		{4, 0, 2, 0, "04000000000000000000000000000000000000000000000000000000000000000000000000000000000000000000000000000000000000000000000058bf5a3f"},
		{4, 3, 37, 1, "0477000000000000000000000000000000000000000000000000000000000000000000000000000000000000000000000000000000000000000000001ecbc44d"},
		{4, 4294967296, 38, 58, "04776861742061206672616d6520636172726965733a2061207061796c6f6164206f662066696674792d6e696e65206279746573206174206d6f730022a223c7"},
		{4, 281474976710655, 73, 59, "04776861742061206672616d6520636172726965733a2061207061796c6f6164206f662066696674792d6e696e65206279746573206174206d6f73748ebabc28"},
	} {
		p, payload := place{x.kind, x.salt, x.sector}, []byte(text[:x.n])
		want, err := hex.DecodeString(x.want)
		if err != nil || len(want) != 64 {
			t.Fatalf("%v: a frame of %d bytes, %v", p, len(want), err)
		}
		expectFrame(t, p, payload, want)
		expectPayload(t, p, want, payload)
	}
}

func TestFramesOfAllPlaces(t *testing.T) {
	for _, p := range places() {
		for _, payload := range payloads() {
			want := slow(p, payload)
			expectFrame(t, p, payload, want)
			expectPayload(t, p, want, payload)
		}
	}
}

func TestEmptyFrame(t *testing.T) {
	b, e := Encode(2, 7, 74, nil)
	if e != api.OK || len(b) != 64 || !bytes.Equal(b[:60], append([]byte{2}, make([]byte, 59)...)) {
		t.Fatalf("the frame of an empty payload is %x, error %d", b, e)
	}
	expectPayload(t, place{2, 7, 74}, b, nil)
	expectNone(t, "another salt", place{2, 8, 74}, b)
	expectNone(t, "another sector", place{2, 7, 75}, b)
}

// TestPayloadsThatEndWithZeros are encoded as the shorter ones, and decoded as the longest one.
func TestPayloadsThatEndWithZeros(t *testing.T) {
	p := place{3, 5, 1}
	want := slow(p, []byte("ab"))
	for n := 2; n <= 59; n++ {
		expectFrame(t, p, append([]byte("ab"), make([]byte, n-2)...), want)
	}
	expectPayload(t, p, want, append([]byte("ab"), make([]byte, 57)...))
}

func TestNilAndEmptyAreEquivalent(t *testing.T) {
	for _, p := range places() {
		want := slow(p, nil)
		expectFrame(t, p, nil, want)
		expectFrame(t, p, []byte{}, want)
		expectFrame(t, p, []byte(text)[:0], want)
		expectNone(t, "nil", p, nil)
		expectNone(t, "nothing", p, []byte{})
		expectNone(t, "nothing of a frame", p, want[:0])
	}
}

func TestEncodeAtTheLimits(t *testing.T) {
	for _, x := range []struct {
		kind, salt, sector, n int
		e                     api.Errno
	}{
		{0, 0, 0, 0, api.ErrRange}, {1, 0, 0, 0, api.OK}, {4, 0, 0, 0, api.OK}, {5, 0, 0, 0, api.ErrRange},
		{1, -1, 0, 0, api.ErrRange}, {1, 0, 0, 59, api.OK}, {1, math.MaxInt, 0, 0, api.OK}, {1, math.MinInt, 0, 0, api.ErrRange},
		{1, 0, -1, 0, api.ErrRange}, {1, 0, 1048575, 0, api.OK}, {1, 0, 1048576, 0, api.ErrRange},
		{1, 0, 0, 58, api.OK}, {4, 0, 1048575, 59, api.OK}, {1, 0, 0, 60, api.ErrLength}, {4, math.MaxInt, 1048575, 60, api.ErrLength},
	} {
		p, payload := place{x.kind, x.salt, x.sector}, noise(x.n, 3)
		if x.e == api.OK {
			expectFrame(t, p, payload, slow(p, payload))
		} else {
			expectErrno(t, p, payload, x.e)
		}
	}
}

// TestErrorsOfEncode combines payloads that are short enough and that are not with each defect of a place.
func TestErrorsOfEncode(t *testing.T) {
	for _, n := range []int{0, 1, 58, 59, 60, 61, 64, 128, 255, 256, 315, 65536 + 59, 1 << 20} {
		payload := make([]byte, n)
		for _, p := range places() {
			if n > 59 {
				expectErrno(t, p, payload, api.ErrLength)
			}
			for _, kind := range noKinds {
				expectErrno(t, place{kind, p.salt, p.sector}, payload, api.ErrRange)
			}
			for _, salt := range noSalts {
				expectErrno(t, place{p.kind, salt, p.sector}, payload, api.ErrRange)
			}
			for _, sector := range noSectors {
				expectErrno(t, place{p.kind, p.salt, sector}, payload, api.ErrRange)
			}
		}
		expectErrno(t, place{0, -1, -1}, payload, api.ErrRange)
		expectErrno(t, place{5, math.MinInt, 1048576}, payload, api.ErrRange)
	}
}

func TestDecodeOfOtherLengths(t *testing.T) {
	for _, p := range []place{{1, 0, 0}, {2, 258, 65537}, {4, math.MaxInt, 1048575}} {
		for _, payload := range [][]byte{nil, []byte("a"), []byte(text)} {
			whole := append(slow(p, payload), make([]byte, 64)...)
			for n := range len(whole) + 1 {
				if n != 64 {
					expectNone(t, "cut or longer", p, whole[:n])
				}
			}
			expectPayload(t, p, whole[:64], payload)
			expectNone(t, "without its first byte", p, whole[1:64])
			expectNone(t, "behind another byte", p, append([]byte{0}, whole[:64]...))
			expectNone(t, "shifted", p, append([]byte{0}, whole[:63]...))
			expectNone(t, "twice", p, slices.Concat(whole[:64], whole[:64]))
			expectNone(t, "very long", p, append(whole, make([]byte, 1<<16)...))
		}
	}
}

// TestDecodeOfSealsOfOtherLengths seals payloads of other lengths: the checksum fits, but no frame is that long.
func TestDecodeOfSealsOfOtherLengths(t *testing.T) {
	p := place{2, 258, 9}
	for n := range 130 {
		if n != 60 {
			expectNone(t, "sealed", p, seal(p.salt, p.sector, append([]byte{2}, noise(n, 1)...)[:n]))
		}
	}
}

func TestDecodeOfChangedBytes(t *testing.T) {
	for _, p := range []place{{1, 0, 0}, {2, 258, 65537}, {3, 3, 1}, {4, math.MaxInt, 1048575}} {
		for _, payload := range [][]byte{nil, []byte("a"), []byte(text)} {
			b := slow(p, payload)
			for i := range b {
				for change := 1; change < 256; change++ {
					b[i] ^= byte(change)
					expectNone(t, "a changed byte", p, b)
					b[i] ^= byte(change)
				}
			}
			expectPayload(t, p, b, payload)
		}
	}
}

func TestDecodeOfOtherPlaces(t *testing.T) {
	for _, p := range places() {
		b := slow(p, []byte(text))
		for _, kind := range slices.Concat(kinds, noKinds) {
			if kind != p.kind {
				expectNone(t, "another kind", place{kind, p.salt, p.sector}, b)
			}
		}
		for _, salt := range slices.Concat(salts, noSalts) {
			if salt != p.salt {
				expectNone(t, "another salt", place{p.kind, salt, p.sector}, b)
			}
		}
		for _, sector := range slices.Concat(sectors, noSectors) {
			if sector != p.sector {
				expectNone(t, "another sector", place{p.kind, p.salt, sector}, b)
			}
		}
		for bit := range 64 {
			expectNone(t, "a salt with another bit", place{p.kind, p.salt ^ 1<<bit, p.sector}, b)
			expectNone(t, "a sector with another bit", place{p.kind, p.salt, p.sector ^ 1<<bit}, b)
			expectNone(t, "a kind with another bit", place{p.kind ^ 1<<bit, p.salt, p.sector}, b)
		}
		if p.salt != p.sector && p.salt < 1<<20 {
			expectNone(t, "salt and sector exchanged", place{p.kind, p.sector, p.salt}, b)
		}
	}
}

// TestDecodeOfForgedKinds seals a sector with every kind byte: the checksum fits, but only one of them is the frame.
func TestDecodeOfForgedKinds(t *testing.T) {
	for _, payload := range [][]byte{nil, []byte("a"), []byte(text)} {
		for first := range 256 {
			b := seal(258, 9, append([]byte{byte(first)}, fill(payload)...))
			for _, kind := range slices.Concat(kinds, noKinds, []int{first, first + 256, first - 256}) {
				if p := (place{kind, 258, 9}); kind == first && kind >= 1 && kind <= 4 {
					expectPayload(t, p, b, payload)
				} else {
					expectNone(t, "a forged kind", p, b)
				}
			}
		}
	}
}

// TestDecodeOfForgedPlaces seals sectors for what Encode refuses, by the bytes that it would have.
func TestDecodeOfForgedPlaces(t *testing.T) {
	for _, payload := range [][]byte{nil, []byte("a"), []byte(text)} {
		for _, p := range places() {
			for _, kind := range noKinds {
				p := place{kind, p.salt, p.sector}
				expectNone(t, "no kind", p, slow(p, payload))
			}
			for _, salt := range noSalts {
				p := place{p.kind, salt, p.sector}
				expectNone(t, "no salt", p, slow(p, payload))
			}
			for _, sector := range noSectors {
				p := place{p.kind, p.salt, sector}
				expectNone(t, "no sector", p, slow(p, payload))
			}
		}
		for _, p := range []place{{0, -1, -1}, {5, math.MinInt, 1048576}} {
			expectNone(t, "no place", p, slow(p, payload))
		}
	}
}

func TestDecodeOfArbitraryBytes(t *testing.T) {
	for _, p := range append(places(), place{0, 0, 0}, place{1, -1, 0}, place{1, 0, -1}) {
		for n := range 130 {
			expectNone(t, "zeros", p, make([]byte, n))
			expectNone(t, "ones", p, bytes.Repeat([]byte{255}, n))
			b := noise(n, uint32(n))
			expectNone(t, "noise", p, b)
			if n > 0 {
				b[0] = byte(p.kind)
				expectNone(t, "noise behind a kind", p, b)
			}
		}
	}
}

func TestEncodeLeavesItsArgumentAlone(t *testing.T) {
	p := place{2, 258, 65537}
	for _, n := range []int{0, 1, 58, 59, 60, 64} {
		whole := noise(200, 5)
		old := bytes.Clone(whole)
		payload := whole[50 : 50+n]
		first, e := Encode(p.kind, p.salt, p.sector, payload)
		if (e == api.OK) != (n <= 59) {
			t.Errorf("Encode of %d bytes: error %d", n, e)
		}
		Encode(0, p.salt, p.sector, payload)
		clear(first[:cap(first)])
		if !bytes.Equal(whole, old) {
			t.Errorf("Encode of %d bytes changes its argument, or what surrounds it, or shares memory with it", n)
		}
	}
}

func TestResultsOfEncodeShareNoMemory(t *testing.T) {
	p := place{2, 258, 65537}
	for _, n := range []int{0, 1, 58, 59} {
		payload := noise(n, 5)
		want := slow(p, payload)
		first, _ := Encode(p.kind, p.salt, p.sector, payload)
		second, _ := Encode(p.kind, p.salt, p.sector, payload)
		clear(second[:cap(second)])
		clear(payload)
		if !bytes.Equal(first, want) {
			t.Errorf("a result of Encode of %d bytes shares memory with its argument or with another one", n)
		}
	}
}

func TestDecodeLeavesItsArgumentAlone(t *testing.T) {
	p := place{2, 258, 65537}
	for _, payload := range [][]byte{nil, []byte("a"), []byte(text)} {
		whole := slices.Concat(noise(10, 6), slow(p, payload), noise(50, 7))
		old := bytes.Clone(whole)
		b := whole[10:74]
		first, _ := Decode(p.kind, p.salt, p.sector, b)
		second, _ := Decode(p.kind, p.salt, p.sector, b)
		Decode(p.kind, p.salt, p.sector, whole[10:73])
		Decode(p.kind, p.salt, p.sector, whole[10:75])
		Decode(3, p.salt, p.sector, b)
		Decode(0, p.salt, p.sector, b)
		clear(first[:cap(first)])
		if !bytes.Equal(whole, old) {
			t.Error("Decode changes its argument, or what surrounds it, or shares memory with it")
		}
		clear(whole)
		if !bytes.Equal(second, fill(payload)) {
			t.Error("a result of Decode shares memory with its argument or with another one")
		}
	}
}

func TestCallsDependOnNothingElse(t *testing.T) {
	for _, p := range []place{{1, 0, 0}, {2, 258, 65537}, {4, math.MaxInt, 1048575}} {
		for _, payload := range [][]byte{[]byte(text), []byte("a"), nil} {
			want := slow(p, payload)
			for range 3 {
				expectFrame(t, p, payload, want)
				expectPayload(t, p, want, payload)
				Encode(3, 77, 78, []byte(text))
				Encode(1, 0, 0, make([]byte, 60))
				expectNone(t, "in between", p, []byte(text))
			}
		}
	}
}
