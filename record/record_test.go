package record

import (
	"bytes"
	"encoding/hex"
	"math"
	"slices"
	"testing"

	"flashcache/api"
	"flashcache/crc"
)

// maxExpiries has the greatest Expiry of each format.
var maxExpiries = map[int]int{1: 4294967295, 2: 1099511627775}

// noVersions are versions of no format.
var noVersions = []int{math.MinInt, -2, -1, 0, 3, 4, 0xA1, 0xA2, 257, 258, 1<<32 + 1, 1<<32 + 2, math.MaxInt}

// noKinds are Kinds of no record. Some of them look like a Kind in their lowest byte, or in the lowest byte of 16 times them.
var noKinds = []int{math.MinInt, -255, -254, -1, 0, 4, 5, 16, 17, 18, 19, 32, 48, 255, 257, 258, 259, 1<<32 + 1, 1<<60 + 1, math.MaxInt}

type place struct{ seq, off int }

// places are places of records, the smallest and the greatest ones among them.
var places = []place{
	{0, 0}, {1, 0}, {0, 1}, {258, 9}, {255, 256}, {65536, 59}, {1<<32 + 1, 1 << 30}, {api.MaxSeq, 120773},
	{math.MaxInt, 0}, {0, 2147483647}, {math.MaxInt, 2147483647},
}

// noPlaces are places of no record. Some of them have the same lowest bytes as a place.
var noPlaces = []place{
	{-1, 0}, {math.MinInt, 0}, {-1 << 32, 0}, {0, -1}, {0, math.MinInt}, {0, 1 << 31}, {0, 1<<31 + 1}, {0, 1 << 32}, {0, 1<<32 + 9},
	{0, math.MaxInt}, {-1, -1}, {math.MinInt, math.MaxInt},
}

func value(key, value string, expiry int) api.Record {
	return api.Record{Kind: api.KindValue, Key: []byte(key), Value: []byte(value), Expiry: expiry}
}

func tombstone(key string) api.Record {
	return api.Record{Kind: api.KindTombstone, Key: []byte(key)}
}

func flush() api.Record {
	return api.Record{Kind: api.KindFlush}
}

// noise returns n bytes without a visible pattern, the same ones each time.
func noise(n int, seed uint32) []byte {
	b := make([]byte, n)
	for i := range b {
		seed = seed*1664525 + 1013904223
		b[i] = byte(seed >> 24)
	}
	return b
}

// valid has records that can be encoded in both formats.
func valid() []api.Record {
	all := []api.Record{flush(), {Kind: api.KindFlush, Key: []byte{}, Value: []byte{}}}
	for _, n := range []int{1, 2, 59, 128, 254, 255} {
		key := string(noise(n, uint32(n)))
		all = append(all, tombstone(key), value(key, "", 0), value(key, "value", 1))
	}
	for _, n := range []int{1, 2, 43, 255, 256, 257, 1000, 65535, 65536} {
		v := string(noise(n, uint32(n)))
		all = append(all, value("k", v, 0), value(string(noise(255, 1)), v, 4294967295))
	}
	for _, expiry := range []int{0, 1, 255, 256, 0x01020304, math.MaxInt32, 1 << 31, 4294967294, 4294967295} {
		all = append(all, value("key", "value", expiry))
	}
	return append(all, value("\x00", "\x00", 0), tombstone("\x00"), value("\xff", "\xff\xff", 255))
}

// bigEndian splits n into width bytes by division.
func bigEndian(n uint64, width int) []byte {
	b := make([]byte, width)
	for i := range b {
		b[width-1-i] = byte(n % 256)
		n /= 256
	}
	return b
}

// seal returns the bytes of a record with these first 12 bytes, whatever they are, and a checksum that fits.
func seal(seq, off int, head, key, value []byte) []byte {
	sum := crc.Sum(slices.Concat(bigEndian(uint64(seq), 8), bigEndian(uint64(off), 4), head, key, value))
	return slices.Concat(head, bigEndian(uint64(sum), 4), key, value)
}

// slow encodes a record by the tables of the chapter.
func slow(version, seq, off int, r api.Record) []byte {
	kind, key := byte(r.Kind), byte(len(r.Key))
	length, expiry := uint64(len(r.Value)), uint64(r.Expiry)
	if version == 1 {
		return seal(seq, off, slices.Concat([]byte{0xA1, kind, key, 0}, bigEndian(length, 4), bigEndian(expiry, 4)), r.Key, r.Value)
	}
	return seal(seq, off, slices.Concat([]byte{0xA2, key, 16 * kind}, bigEndian(length, 3), []byte{0}, bigEndian(expiry, 5)), r.Key, r.Value)
}

func clone(r api.Record) api.Record {
	r.Key, r.Value = bytes.Clone(r.Key), bytes.Clone(r.Value)
	return r
}

func same(a, b api.Record) bool {
	return a.Kind == b.Kind && bytes.Equal(a.Key, b.Key) && bytes.Equal(a.Value, b.Value) && a.Expiry == b.Expiry
}

// brief shortens what an error message shows of b.
func brief(b []byte) string {
	if len(b) <= 40 {
		return hex.EncodeToString(b)
	}
	return hex.EncodeToString(b[:40]) + ".."
}

// expectRecord reports an error unless Decode of b returns r and the length n.
func expectRecord(t *testing.T, what string, version int, p place, b []byte, r api.Record, n int) {
	t.Helper()
	got, length, ok := Decode(version, p.seq, p.off, b)
	if !ok || length != n || !same(got, r) {
		t.Errorf("%s: Decode(%d, %v, %s) = Kind %d, key %s, %d bytes, Expiry %d; %d, %v",
			what, version, p, brief(b), got.Kind, brief(got.Key), len(got.Value), got.Expiry, length, ok)
	}
}

// expectNone reports an error unless Decode of b returns no record.
func expectNone(t *testing.T, what string, version int, p place, b []byte) {
	t.Helper()
	got, length, ok := Decode(version, p.seq, p.off, b)
	if ok || length != 0 || !same(got, api.Record{}) {
		t.Errorf("%s: Decode(%d, %v, %s) = Kind %d, key %s, %d bytes, Expiry %d; %d, %v",
			what, version, p, brief(b), got.Kind, brief(got.Key), len(got.Value), got.Expiry, length, ok)
	}
}

// expectErrno reports an error unless Check and Encode return e for r, and Encode no bytes with an error.
func expectErrno(t *testing.T, version int, r api.Record, e api.Errno) {
	t.Helper()
	show := func(name string, got api.Errno) {
		t.Errorf("%s(%d, Kind %d, key of %d, value of %d, Expiry %d): error %d, want %d", name, version, r.Kind, len(r.Key), len(r.Value), r.Expiry, got, e)
	}
	if got := Check(version, r); got != e {
		show("Check", got)
	}
	b, got := Encode(version, 5, 6, r)
	if got != e || (len(b) > 0) != (e == api.OK) {
		show("Encode", got)
	}
}

func TestLength(t *testing.T) {
	for _, x := range []struct {
		r    api.Record
		want int
	}{
		{api.Record{}, 16},
		{flush(), 16},
		{tombstone("k"), 17},
		{value("k", "", 0), 17},
		{value("key", "value", 9), 24},
		{value(string(make([]byte, 255)), string(make([]byte, 65536)), 0), 65807},
		{value("", string(make([]byte, 100000)), -1), 100016},
		{api.Record{Kind: -7, Key: make([]byte, 1000), Value: make([]byte, 2000), Expiry: math.MinInt}, 3016},
		{api.Record{Kind: api.KindFlush, Key: []byte("k"), Value: []byte("v")}, 18},
	} {
		if got := Length(x.r); got != x.want {
			t.Errorf("Length of a key of %d and a value of %d = %d, want %d", len(x.r.Key), len(x.r.Value), got, x.want)
		}
	}
}

func TestCheckOfValidRecords(t *testing.T) {
	for version := 1; version <= 2; version++ {
		for _, r := range valid() {
			expectErrno(t, version, r, api.OK)
		}
	}
}

func TestCheckOfVersions(t *testing.T) {
	for _, version := range noVersions {
		for _, r := range []api.Record{value("k", "v", 0), tombstone("k"), flush(), {}} {
			expectErrno(t, version, r, api.ErrRange)
		}
	}
}

func TestCheckOfKinds(t *testing.T) {
	for version := 1; version <= 2; version++ {
		for _, kind := range noKinds {
			expectErrno(t, version, api.Record{Kind: kind}, api.ErrForm)
			expectErrno(t, version, api.Record{Kind: kind, Key: []byte("k")}, api.ErrForm)
			expectErrno(t, version, api.Record{Kind: kind, Key: []byte("k"), Value: []byte("v"), Expiry: 1}, api.ErrForm)
		}
	}
}

func TestCheckOfTombstonesAndFlushes(t *testing.T) {
	for version := 1; version <= 2; version++ {
		for _, kind := range []int{api.KindTombstone, api.KindFlush} {
			key := []byte("k")
			if kind == api.KindFlush {
				key = nil
			}
			expectErrno(t, version, api.Record{Kind: kind, Key: key}, api.OK)
			for _, v := range [][]byte{{0}, []byte("value"), make([]byte, 65537)} {
				expectErrno(t, version, api.Record{Kind: kind, Key: key, Value: v}, api.ErrForm)
			}
			for _, expiry := range []int{math.MinInt, -1, 1, math.MaxInt} {
				expectErrno(t, version, api.Record{Kind: kind, Key: key, Expiry: expiry}, api.ErrForm)
			}
		}
		for _, n := range []int{1, 255, 256} {
			expectErrno(t, version, api.Record{Kind: api.KindFlush, Key: make([]byte, n)}, api.ErrForm)
		}
	}
}

func TestCheckOfKeys(t *testing.T) {
	for version := 1; version <= 2; version++ {
		for _, x := range []struct {
			n int
			e api.Errno
		}{
			{0, api.ErrKey}, {1, api.OK}, {254, api.OK}, {255, api.OK}, {256, api.ErrKey}, {257, api.ErrKey}, {512, api.ErrKey}, {65536, api.ErrKey},
		} {
			key := string(make([]byte, x.n))
			expectErrno(t, version, value(key, "v", 3), x.e)
			expectErrno(t, version, tombstone(key), x.e)
		}
		expectErrno(t, version, api.Record{Kind: api.KindValue}, api.ErrKey)
		expectErrno(t, version, api.Record{Kind: api.KindTombstone}, api.ErrKey)
	}
}

func TestCheckOfValues(t *testing.T) {
	for version := 1; version <= 2; version++ {
		for _, x := range []struct {
			n int
			e api.Errno
		}{
			{0, api.OK}, {1, api.OK}, {65535, api.OK}, {65536, api.OK}, {65537, api.ErrValue}, {1 << 17, api.ErrValue}, {1 << 24, api.ErrValue}, {1<<24 + 1, api.ErrValue},
		} {
			expectErrno(t, version, value("k", string(make([]byte, x.n)), 0), x.e)
		}
	}
}

func TestCheckOfExpiries(t *testing.T) {
	for version := 1; version <= 2; version++ {
		most := maxExpiries[version]
		for _, x := range []struct {
			expiry int
			e      api.Errno
		}{
			{0, api.OK}, {1, api.OK}, {most - 1, api.OK}, {most, api.OK},
			{most + 1, api.ErrExpiry}, {most + 2, api.ErrExpiry}, {math.MaxInt, api.ErrExpiry}, {-1, api.ErrExpiry}, {-most, api.ErrExpiry}, {math.MinInt, api.ErrExpiry},
		} {
			expectErrno(t, version, value("k", "v", x.expiry), x.e)
		}
	}
	expectErrno(t, 2, value("k", "v", maxExpiries[1]+1), api.OK)
}

// TestOrderOfErrors tries all sets of defects: the first one of a set decides.
func TestOrderOfErrors(t *testing.T) {
	for set := range 64 {
		for version := 1; version <= 2; version++ {
			version, seq, r := version, 5, value("k", "v", 1)
			defects := []struct {
				e    api.Errno
				make func()
			}{
				{api.ErrRange, func() { version = 3 }},
				{api.ErrForm, func() { r.Kind = 4 }},
				{api.ErrKey, func() { r.Key = make([]byte, 256) }},
				{api.ErrValue, func() { r.Value = make([]byte, 65537) }},
				{api.ErrExpiry, func() { r.Expiry = -1 }},
				{api.ErrRange, func() { seq = -1 }},
			}
			errors := []api.Errno{api.OK, api.OK}
			for i := len(defects) - 1; i >= 0; i-- {
				if set>>i&1 == 1 {
					defects[i].make()
					errors[0] = defects[i].e
					if i < 5 {
						errors[1] = defects[i].e
					}
				}
			}
			b, e := Encode(version, seq, 6, r)
			if e != errors[0] || (len(b) > 0) != (e == api.OK) {
				t.Errorf("defects %06b: Encode gives %d bytes and the error %d, want %d", set, len(b), e, errors[0])
			}
			if e := Check(version, r); e != errors[1] {
				t.Errorf("defects %06b: Check gives the error %d, want %d", set, e, errors[1])
			}
		}
	}
}

func TestOrderOfErrorsOfTombstonesAndFlushes(t *testing.T) {
	for version := 1; version <= 2; version++ {
		expectErrno(t, version, api.Record{Kind: api.KindTombstone, Value: []byte("v"), Expiry: -1}, api.ErrForm)
		expectErrno(t, version, api.Record{Kind: api.KindTombstone, Key: make([]byte, 256), Expiry: 1}, api.ErrForm)
		expectErrno(t, version, api.Record{Kind: api.KindTombstone, Key: []byte("k"), Value: make([]byte, 65537)}, api.ErrForm)
		expectErrno(t, version, api.Record{Kind: api.KindFlush, Key: make([]byte, 256), Value: make([]byte, 65537), Expiry: -1}, api.ErrForm)
	}
	expectErrno(t, 0, api.Record{Kind: api.KindFlush, Key: []byte("k")}, api.ErrRange)
	expectErrno(t, 3, api.Record{Kind: api.KindTombstone}, api.ErrRange)
}

func TestEncodeOfKnownRecords(t *testing.T) {
	for _, x := range []struct {
		version, seq, off int
		r                 api.Record
		want              string
	}{
		{1, 0, 0, tombstone("k"), "a102010000000000000000003e2830836b"},
		{2, 0, 0, tombstone("k"), "a20120000000000000000000109c896f6b"},
		{1, 1, 59, value("key", "value", 0), "a101030000000005000000008de1827c6b657976616c7565"},
		{2, 1, 59, value("key", "value", 0), "a203100000050000000000004b57f74c6b657976616c7565"},
		{1, 258, 9, value("key", "value", 0x01020304), "a1010300000000050102030420a5c1e16b657976616c7565"},
		{2, 258, 9, value("key", "value", 0x01020304), "a20310000005000001020304e613b4d16b657976616c7565"},
		{1, math.MaxInt, 2147483647, flush(), "a10300000000000000000000fc8044f3"},
		{2, math.MaxInt, 2147483647, flush(), "a20030000000000000000000805e5ac4"},
		{1, 7, 0, value("\x00", "", 4294967295), "a101010000000000ffffffff0367f39100"},
		{2, 7, 0, value("\x00", "", 4294967295), "a201100000000000ffffffff98f0f19600"},
		{2, 7, 0, value("\x00", "", 1099511627775), "a2011000000000ffffffffff294bdfaa00"},
	} {
		b, e := Encode(x.version, x.seq, x.off, x.r)
		if e != api.OK || hex.EncodeToString(b) != x.want {
			t.Errorf("Encode in format %d = %x, error %d; want %s", x.version, b, e, x.want)
		}
		expectRecord(t, "a known record", x.version, place{x.seq, x.off}, b, x.r, len(b))
	}
}

func TestEncodeOfValidRecords(t *testing.T) {
	for version := 1; version <= 2; version++ {
		for _, r := range valid() {
			for _, p := range []place{{258, 9}, {math.MaxInt, 2147483647}} {
				b, e := Encode(version, p.seq, p.off, r)
				if want := slow(version, p.seq, p.off, r); e != api.OK || !bytes.Equal(b, want) || len(b) != Length(r) {
					t.Errorf("format %d: %s, error %d; want %s", version, brief(b), e, brief(want))
				}
			}
		}
	}
}

func TestEncodeOfGreatExpiries(t *testing.T) {
	for _, expiry := range []int{1<<32 - 1, 1 << 32, 1<<32 + 1, 1 << 39, 0x0102030405, 1<<40 - 1} {
		r := value("key", "value", expiry)
		b, e := Encode(2, 1, 2, r)
		if want := slow(2, 1, 2, r); e != api.OK || !bytes.Equal(b, want) {
			t.Errorf("Expiry %d: %x, error %d; want %x", expiry, b, e, want)
		}
		expectRecord(t, "a great Expiry", 2, place{1, 2}, b, r, len(b))
	}
}

func TestEncodeAtPlaces(t *testing.T) {
	for version := 1; version <= 2; version++ {
		for _, r := range []api.Record{value("key", "value", 77), tombstone("key"), flush()} {
			for _, p := range places {
				b, e := Encode(version, p.seq, p.off, r)
				if want := slow(version, p.seq, p.off, r); e != api.OK || !bytes.Equal(b, want) {
					t.Errorf("format %d at %v: %x, error %d; want %x", version, p, b, e, want)
				}
				expectRecord(t, "at a place", version, p, b, r, len(b))
			}
		}
	}
}

func TestEncodeAtNoPlace(t *testing.T) {
	for version := 1; version <= 2; version++ {
		for _, r := range []api.Record{value("key", "value", 77), tombstone("key"), flush()} {
			for _, p := range noPlaces {
				if b, e := Encode(version, p.seq, p.off, r); e != api.ErrRange || len(b) != 0 {
					t.Errorf("format %d at %v: %x, error %d", version, p, b, e)
				}
			}
		}
	}
}

func TestDecodeOfValidRecords(t *testing.T) {
	p := place{258, 9}
	for version := 1; version <= 2; version++ {
		for _, r := range valid() {
			b := slow(version, p.seq, p.off, r)
			expectRecord(t, "alone", version, p, b, r, len(b))
			for _, behind := range [][]byte{{0}, {255}, make([]byte, 59), noise(100, 3), b} {
				expectRecord(t, "followed by others", version, p, slices.Concat(b, behind), r, len(b))
			}
		}
	}
}

func TestDecodeOfARowOfRecords(t *testing.T) {
	for version := 1; version <= 2; version++ {
		var stream []byte
		for _, r := range valid() {
			b, _ := Encode(version, 3, len(stream), r)
			stream = append(stream, b...)
		}
		off := 0
		for _, r := range valid() {
			expectRecord(t, "in a row", version, place{3, off}, stream[off:], r, Length(r))
			off += Length(r)
		}
		expectNone(t, "behind a row", version, place{3, off}, stream[off:])
	}
}

func TestDecodeOfCutRecords(t *testing.T) {
	p := place{258, 9}
	for version := 1; version <= 2; version++ {
		for _, r := range valid() {
			b := slow(version, p.seq, p.off, r)
			for n := 0; n < len(b); n += max(1, min(len(b)/300, len(b)-1-n)) {
				expectNone(t, "cut", version, p, b[:n])
				expectNone(t, "cut, without the bytes behind", version, p, b[:n:n])
			}
		}
	}
}

func TestDecodeOfCutAndFilledRecords(t *testing.T) {
	p := place{258, 9}
	for version := 1; version <= 2; version++ {
		b := slow(version, p.seq, p.off, value("key", "value", 77))
		for n := range b {
			for _, x := range []byte{0x00, 0x5A, 0xFF} {
				expectNone(t, "cut and filled", version, p, append(bytes.Clone(b[:n]), bytes.Repeat([]byte{x}, 100)...))
			}
			expectNone(t, "without its first bytes", version, p, b[n+1:])
		}
	}
}

func TestDecodeOfChangedRecords(t *testing.T) {
	p := place{258, 9}
	for version := 1; version <= 2; version++ {
		for _, r := range []api.Record{value("key", "value", 77), value("k", "", 0), tombstone("key"), flush()} {
			b := slow(version, p.seq, p.off, r)
			for i := range b {
				for change := 1; change < 256; change++ {
					bad := bytes.Clone(b)
					bad[i] ^= byte(change)
					expectNone(t, "changed", version, p, append(bad, noise(300, 9)...))
				}
			}
		}
	}
}

func TestDecodeAtAnotherPlace(t *testing.T) {
	for version := 1; version <= 2; version++ {
		for _, r := range []api.Record{value("key", "value", 77), tombstone("key"), flush()} {
			for _, p := range places {
				b := slow(version, p.seq, p.off, r)
				for _, other := range append(slices.Concat(places, noPlaces), place{p.off, p.seq}, place{p.seq + 1, p.off}, place{p.seq, p.off + 1}, place{p.seq, p.off + 1<<32}) {
					if other != p {
						expectNone(t, "at another place", version, other, b)
					}
				}
			}
		}
	}
}

// TestDecodeAtNoPlace decodes records whose checksum fits a place that no record has.
func TestDecodeAtNoPlace(t *testing.T) {
	for version := 1; version <= 2; version++ {
		for _, p := range noPlaces {
			expectNone(t, "at no place", version, p, slow(version, p.seq, p.off, value("key", "value", 77)))
			expectNone(t, "at no place", version, p, slow(version, p.seq, p.off, flush()))
		}
	}
}

func TestDecodeInAnotherVersion(t *testing.T) {
	for version := 1; version <= 2; version++ {
		for _, r := range []api.Record{value("key", "value", 77), tombstone("key"), flush()} {
			b := slow(version, 1, 2, r)
			expectNone(t, "in the other version", 3-version, place{1, 2}, b)
			for _, other := range noVersions {
				expectNone(t, "in no version", other, place{1, 2}, b)
			}
		}
	}
}

// TestDecodeOfForgedRecords decodes bytes that no Encode returns, although their checksum fits.
func TestDecodeOfForgedRecords(t *testing.T) {
	p := place{258, 9}
	long := make([]byte, 65537)
	for _, x := range []struct {
		what       string
		head       string
		key, value []byte
	}{
		{"no Kind", "a10001000000000000000000", []byte("k"), nil},
		{"a Kind that is too great", "a10401000000000000000000", []byte("k"), nil},
		{"16 times a Kind", "a11001000000000000000000", []byte("k"), nil},
		{"the Kind 255", "a1ff01000000000000000000", []byte("k"), nil},
		{"a reserved byte", "a10101010000000000000000", []byte("k"), nil},
		{"a reserved byte of 128", "a10101800000000000000000", []byte("k"), nil},
		{"a tombstone with a value", "a10201000000000100000000", []byte("k"), []byte("v")},
		{"a tombstone with an Expiry", "a10201000000000000000001", []byte("k"), nil},
		{"a tombstone without a key", "a10200000000000000000000", nil, nil},
		{"a flush with a key", "a10301000000000000000000", []byte("k"), nil},
		{"a flush with a value", "a10300000000000100000000", nil, []byte("v")},
		{"a flush with an Expiry", "a10300000000000000000001", nil, nil},
		{"a value without a key", "a10100000000000100000000", nil, []byte("v")},
		{"a value that is too long", "a10101000001000100000000", []byte("k"), long},
		{"the other mark", "a20101000000000000000000", []byte("k"), nil},
		{"the mark 0", "000101000000000000000000", []byte("k"), nil},
		{"the mark 255", "ff0101000000000000000000", []byte("k"), nil},

		{"no Kind", "a20100000000000000000000", []byte("k"), nil},
		{"a Kind that is too great", "a20140000000000000000000", []byte("k"), nil},
		{"the Kind 15", "a201f0000000000000000000", []byte("k"), nil},
		{"a Kind that is not multiplied", "a20101000000000000000000", []byte("k"), nil},
		{"a Kind and a bit below it", "a20111000000000000000000", []byte("k"), nil},
		{"a Kind and all bits below it", "a2011f000000000000000000", []byte("k"), nil},
		{"a reserved byte", "a20110000000010000000000", []byte("k"), nil},
		{"a reserved byte of 128", "a20110000000800000000000", []byte("k"), nil},
		{"a tombstone with a value", "a20120000001000000000000", []byte("k"), []byte("v")},
		{"a tombstone with an Expiry", "a20120000000000000000001", []byte("k"), nil},
		{"a tombstone without a key", "a20020000000000000000000", nil, nil},
		{"a flush with a key", "a20130000000000000000000", []byte("k"), nil},
		{"a flush with a value", "a20030000001000000000000", nil, []byte("v")},
		{"a flush with an Expiry", "a20030000000000000000001", nil, nil},
		{"a value without a key", "a20010000001000000000000", nil, []byte("v")},
		{"a value that is too long", "a20110010001000000000000", []byte("k"), long},
		{"the other mark", "a10110000000000000000000", []byte("k"), nil},
		{"the mark 0", "000110000000000000000000", []byte("k"), nil},
		{"the mark 255", "ff0110000000000000000000", []byte("k"), nil},
	} {
		head, err := hex.DecodeString(x.head)
		if err != nil || len(head) != 12 {
			t.Fatalf("%s: a head of %d bytes, %v", x.what, len(head), err)
		}
		b := seal(p.seq, p.off, head, x.key, x.value)
		for version := 1; version <= 2; version++ {
			expectNone(t, x.what, version, p, b)
			expectNone(t, x.what, version, p, append(b, make([]byte, 300)...))
		}
	}
}

// TestDecodeOfSealedRecords makes sure that the forged ones above fail for what they are, and not for how they are sealed.
func TestDecodeOfSealedRecords(t *testing.T) {
	p := place{258, 9}
	long := make([]byte, 65536)
	for _, x := range []struct {
		version int
		head    string
		r       api.Record
	}{
		{1, "a10101000000000000000000", value("k", "", 0)},
		{1, "a10101000001000000000000", value("k", string(long), 0)},
		{1, "a10201000000000000000000", tombstone("k")},
		{1, "a10300000000000000000000", flush()},
		{2, "a20110000000000000000000", value("k", "", 0)},
		{2, "a20110010000000000000000", value("k", string(long), 0)},
		{2, "a20120000000000000000000", tombstone("k")},
		{2, "a20030000000000000000000", flush()},
	} {
		head, _ := hex.DecodeString(x.head)
		expectRecord(t, x.head, x.version, p, seal(p.seq, p.off, head, x.r.Key, x.r.Value), x.r, Length(x.r))
	}
}

// TestDecodeOfEveryHead changes two bytes of a head and seals it again: Decode finds a record just if Encode makes these bytes of it.
func TestDecodeOfEveryHead(t *testing.T) {
	p := place{258, 9}
	body := make([]byte, 300)
	for version := 1; version <= 2; version++ {
		head := slow(version, p.seq, p.off, value("k", "", 0))[:12]
		for i := range 4 {
			for change := range 256 {
				for _, k := range []int{1, 2, 3, 5, 6, 7, 11} {
					for _, x := range []byte{0, 1, 2, 3, 16, 32, 48, 49, 255} {
						forged := bytes.Clone(head)
						forged[i] ^= byte(change)
						forged[k] = x
						expectItself(t, version, p, forged, body)
					}
				}
			}
		}
	}
}

// expectItself seals a head with as much of the body as it asks for, and expects from Decode what Encode makes of the record, or nothing.
func expectItself(t *testing.T, version int, p place, head, body []byte) {
	t.Helper()
	key, length := int(head[2]), int(head[4])<<24+int(head[5])<<16+int(head[6])<<8+int(head[7])
	if version == 2 {
		key, length = int(head[1]), int(head[3])<<16+int(head[4])<<8+int(head[5])
	}
	if key+length > len(body) {
		expectNone(t, "a head without its body", version, p, seal(p.seq, p.off, head, body, nil))
		return
	}
	b := seal(p.seq, p.off, head, body[:key], body[key:key+length])
	r, n, ok := Decode(version, p.seq, p.off, b)
	if ok && (n != len(b) || !bytes.Equal(slow(version, p.seq, p.off, r), b) || Check(version, r) != api.OK) {
		t.Errorf("format %d: %s is decoded, but not encoded", version, brief(b))
	}
	if !ok && isHead(version, head, key, length) {
		t.Errorf("format %d: %s is encoded, but not decoded", version, brief(b))
	}
}

// isHead reports whether a head without a checksum is one that a record has.
func isHead(version int, head []byte, key, length int) bool {
	mark, kind, reserved, expiry := head[0] == 0xA1, int(head[1]), head[3], head[8:12]
	if version == 2 {
		mark, kind, reserved, expiry = head[0] == 0xA2 && head[2]%16 == 0, int(head[2]/16), head[6], head[7:12]
	}
	bare := length == 0 && bytes.Equal(expiry, make([]byte, len(expiry)))
	return mark && reserved == 0 && (kind == 1 && key > 0 || kind == 2 && key > 0 && bare || kind == 3 && key == 0 && bare)
}

func TestDecodeOfGreatLengths(t *testing.T) {
	p := place{258, 9}
	for _, x := range []struct {
		version int
		head    string
	}{
		{1, "a101ff00ffffffff00000000"}, {1, "a10101007fffffff00000000"}, {1, "a10101008000000000000000"}, {1, "a10101000001000100000000"},
		{2, "a2ff10ffffff000000000000"}, {2, "a201107fffff000000000000"}, {2, "a20110010001000000000000"},
	} {
		head, _ := hex.DecodeString(x.head)
		for _, n := range []int{0, 1, 255, 256, 65536, 70000} {
			expectNone(t, "a great length", x.version, p, seal(p.seq, p.off, head, make([]byte, n), nil))
		}
	}
}

func TestDecodeOfArbitraryBytes(t *testing.T) {
	for version := 1; version <= 2; version++ {
		for n := range 70 {
			expectNone(t, "zeros", version, place{0, 0}, make([]byte, n))
			expectNone(t, "ones", version, place{0, 0}, bytes.Repeat([]byte{255}, n))
			for seed := range 20 {
				b := noise(n, uint32(seed))
				expectNone(t, "noise", version, place{seed, n}, b)
				if n > 0 {
					b[0] = []byte{0xA1, 0xA2}[seed%2]
					expectNone(t, "noise behind a mark", version, place{seed, n}, b)
				}
			}
		}
		expectNone(t, "nothing", version, place{0, 0}, nil)
	}
}

func TestNilAndEmptyAreEquivalent(t *testing.T) {
	for version := 1; version <= 2; version++ {
		for _, r := range []api.Record{{Kind: api.KindValue, Key: []byte("k")}, {Kind: api.KindTombstone, Key: []byte("k")}, {Kind: api.KindFlush}} {
			other := clone(r)
			other.Value = []byte("spare")[:0]
			if len(other.Key) == 0 {
				other.Key = []byte("spare")[:0]
			}
			a, _ := Encode(version, 1, 2, r)
			b, e := Encode(version, 1, 2, other)
			if e != api.OK || !bytes.Equal(a, b) || Length(r) != Length(other) {
				t.Errorf("format %d, Kind %d: %x and %x, error %d", version, r.Kind, a, b, e)
			}
		}
	}
}

func TestCallsLeaveTheirArgumentsAlone(t *testing.T) {
	for version := 1; version <= 2; version++ {
		whole := noise(200, 5)
		old := bytes.Clone(whole)
		r := api.Record{Kind: api.KindValue, Key: whole[10:20], Value: whole[50:90], Expiry: 3}
		Length(r)
		Check(version, r)
		first, _ := Encode(version, 1, 2, r)
		want := slow(version, 1, 2, clone(r))
		clear(first[:cap(first)])
		if !bytes.Equal(whole, old) {
			t.Fatal("Encode changes its arguments, or what surrounds them, or shares memory with them")
		}
		second, _ := Encode(version, 1, 2, r)
		third, _ := Encode(version, 1, 2, r)
		clear(third[:cap(third)])
		clear(whole)
		if !bytes.Equal(second, want) {
			t.Error("a result of Encode shares memory with its arguments or with another one")
		}
	}
}

func TestDecodeSharesNoMemory(t *testing.T) {
	p := place{258, 9}
	for version := 1; version <= 2; version++ {
		r := value("key", "value", 77)
		encoded := slow(version, p.seq, p.off, r)
		whole := slices.Concat(encoded, noise(50, 7))
		old := bytes.Clone(whole)
		b := whole[:len(encoded)]

		first, _, _ := Decode(version, p.seq, p.off, b)
		second, _, _ := Decode(version, p.seq, p.off, b)
		clear(first.Key[:cap(first.Key)])
		if string(first.Value) != "value" {
			t.Error("the value shares memory with the key")
		}
		clear(first.Value[:cap(first.Value)])
		if !bytes.Equal(whole, old) {
			t.Error("Decode changes its argument, or what surrounds it, or shares memory with it")
		}
		clear(whole)
		if !same(second, r) {
			t.Error("a result of Decode shares memory with its argument or with another one")
		}
	}
}

func TestCallsDependOnNothingElse(t *testing.T) {
	p := place{258, 9}
	for version := 1; version <= 2; version++ {
		for _, r := range []api.Record{value("key", "value", 77), tombstone("key"), flush()} {
			want := slow(version, p.seq, p.off, r)
			for range 3 {
				b, e := Encode(version, p.seq, p.off, r)
				if e != api.OK || !bytes.Equal(b, want) {
					t.Errorf("format %d: %x, error %d; want %x", version, b, e, want)
				}
				expectRecord(t, "again", version, p, b, r, len(want))
				Encode(3-version, 1, 1, value("other", "record", 1))
				expectNone(t, "in between", version, p, []byte("not a record"))
			}
		}
	}
}
