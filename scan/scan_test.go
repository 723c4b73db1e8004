package scan

import (
	"bytes"
	"encoding/hex"
	"fmt"
	"math"
	"slices"
	"testing"

	"flashcache/api"
	"flashcache/flashdev"
	"flashcache/frame"
	"flashcache/header"
	"flashcache/record"
	"flashcache/region"
)

// letters is a value of 98 bytes.
const letters = "abcdefghijklmnopqrstuvwxyzabcdefghijklmnopqrstuvwxyzabcdefghijklmnopqrstuvwxyzabcdefghijklmnopqrst"

// known has regions, the sectors that another program made of them, and the records that it put there.
var known = []struct {
	l       api.Layout
	h       api.Header
	first   int
	sectors []string // from the first one on
	found   []api.Found
}{
	{
		layout(9, 1, 8, 5), api.Header{Version: 1, Slot: 2, Layout: 9, Seq: 0x010203040506, Tail: 77, Now: 1 << 39}, 90,
		[]string{
			"0101020000000901020304050600000000004d800000000000000000000000000000000000000000000000000000000000000000000000000000000067fff6db",
			"02a101030000000005ffffffff6289248e6b657976616c7565a10201000000000000000000b57365f46b000000000000000000000000000000000000e65317db",
			"02a1030000000000000000000022509a02a10104000000006200000000213a2f1d6c6f6e676162636465666768696a6b6c6d6e6f7071727374757677e68931db",
			"0278797a6162636465666768696a6b6c6d6e6f707172737475767778797a6162636465666768696a6b6c6d6e6f707172737475767778797a616263646a9b8c82",
			"0265666768696a6b6c6d6e6f707172737400000000000000000000000000000000000000000000000000000000000000000000000000000000000000a10ada87",
			"020000000000000000000000000000000000000000000000000000000000000000000000000000000000000000000000000000000000000000000000848c7f8e",
			"02a10203000000000000000000cc8e4735656e6400000000000000000000000000000000000000000000000000000000000000000000000000000000bde2967b",
		},
		[]api.Found{
			{Off: 0, Len: 24, Record: value("key", "value", 1<<32-1)},
			{Off: 24, Len: 17, Record: tombstone("k")},
			{Off: 59, Len: 16, Record: flush()},
			{Off: 75, Len: 118, Record: value("long", letters, 0)},
			{Off: 295, Len: 19, Record: tombstone("end")},
		},
	},
	{
		layout(1<<32-1, 2, 2, 4), api.Header{Version: 2, Slot: 3, Layout: 1<<32 - 1, Seq: 1<<48 - 1, Tail: 1<<48 - 1}, 80,
		[]string{
			"010203ffffffffffffffffffffffffffffffff0000000000000000000000000000000000000000000000000000000000000000000000000000000000f34585c6",
			"02a2011000002a00ffffffffff5c62c0da6b6162636465666768696a6b6c6d6e6f707172737475767778797a6162636465666768696a6b6c6d6e6f707d9fd67f",
		},
		[]api.Found{{Off: 0, Len: 59, Record: value("k", letters[:42], 1<<40-1)}},
	},
	{
		layout(258, 2, 4, 6), api.Header{Version: 2, Slot: 5, Layout: 258, Seq: 1<<32 + 7, Tail: 5, Now: 9}, 94,
		[]string{
			"010205000001020001000000070000000000050000000009000000000000000000000000000000000000000000000000000000000000000000000000f14969f2",
			"02a20030000000000000000000196f2664a2032000000000000000000038f27de36b6579a201100000010000000001021707b67e78790000000000003df026b6",
			"02a204100000620000000000050d036a956c6f6e676162636465666768696a6b6c6d6e6f707172737475767778797a6162636465666768696a6b6c6d2b8cce5e",
			"026e6f707172737475767778797a6162636465666768696a6b6c6d6e6f707172737475767778797a6162636465666768696a6b6c6d6e6f7071727374ce6a7777",
		},
		[]api.Found{
			{Off: 0, Len: 16, Record: flush()},
			{Off: 16, Len: 19, Record: tombstone("key")},
			{Off: 35, Len: 18, Record: value("x", "y", 258)},
			{Off: 59, Len: 118, Record: value("long", letters, 5)},
		},
	},
	{ // the example of the chapter
		layout(1, 1, 4, 4), api.Header{Version: 1, Layout: 1, Seq: 1}, 74,
		[]string{
			"01010000000001000000000001000000000000000000000000000000000000000000000000000000000000000000000000000000000000000000000058c79474",
			"02a10201000000000000000000314132a86b0000000000000000000000000000000000000000000000000000000000000000000000000000000000007eeb935b",
		},
		[]api.Found{{Off: 0, Len: 17, Record: tombstone("k")}},
	},
}

// huge are numbers far away from those of slots, sequence numbers and places in a stream.
var huge = []int{math.MinInt, math.MinInt + 1, -1 << 62, -1 << 48, -1 << 32, 1 << 62, math.MaxInt - 177, math.MaxInt - 1, math.MaxInt}

func layout(id, version, sectors, regions int) api.Layout {
	return api.Layout{ID: id, Version: version, RegionSectors: sectors, Regions: regions}
}

// layouts returns layouts of both versions and of all sizes and numbers of regions.
func layouts() []api.Layout {
	ids := []int{1, 2, 255, 256, 65536, 1 << 31, 1<<32 - 1}
	var all []api.Layout
	for i := range 11 {
		for regions := 4; regions <= 16; regions++ {
			all = append(all, layout(ids[(i+regions)%7], 1+(i+regions)%2, 2<<i, regions))
		}
	}
	return all
}

// noLayouts returns layouts that are not well-formed, each like l but for one number.
func noLayouts(l api.Layout) []api.Layout {
	var all []api.Layout
	for _, n := range slices.Concat(huge, []int{-1, 0}) {
		all = append(all, layout(n, l.Version, l.RegionSectors, l.Regions), layout(l.ID, n, l.RegionSectors, l.Regions),
			layout(l.ID, l.Version, n, l.Regions), layout(l.ID, l.Version, l.RegionSectors, n))
	}
	all = append(all, layout(1<<32, l.Version, l.RegionSectors, l.Regions), layout(1<<32+l.ID, l.Version, l.RegionSectors, l.Regions))
	all = append(all, layout(l.ID, 3, l.RegionSectors, l.Regions), layout(l.ID, 256+l.Version, l.RegionSectors, l.Regions))
	for _, n := range []int{1, 3, 5, 6, 7, 2047, 2049, 4096} {
		all = append(all, layout(l.ID, l.Version, n, l.Regions))
	}
	for _, n := range []int{1, 2, 3, 17, 256 + l.Regions} {
		all = append(all, layout(l.ID, l.Version, l.RegionSectors, n))
	}
	return all
}

// of returns a header for a slot of l.
func of(l api.Layout, slot, seq int) api.Header {
	return api.Header{Version: l.Version, Slot: slot, Layout: l.ID, Seq: seq, Tail: seq / 2, Now: 1000}
}

func value(key, value string, expiry int) api.Record {
	return api.Record{Kind: api.KindValue, Key: []byte(key), Value: []byte(value), Expiry: expiry}
}

func tombstone(key string) api.Record {
	return api.Record{Kind: api.KindTombstone, Key: []byte(key)}
}

func flush() api.Record {
	return api.Record{Kind: api.KindFlush}
}

// sized returns a record of n bytes: a flush of 16 bytes, tombstones and values of more.
func sized(n int) api.Record {
	switch {
	case n == 16:
		return flush()
	case n <= 16+255 && n%2 == 0:
		return tombstone(string(noise(n-16, uint32(n))))
	}
	return value("k", string(noise(n-17, uint32(n))), n)
}

// most returns the greatest expiry of a format.
func most(version int) int {
	if version == 1 {
		return 1<<32 - 1
	}
	return 1<<40 - 1
}

// noise returns n bytes without a visible pattern, the same ones each time.
func noise(n int, seed uint32) []byte {
	b := make([]byte, n)
	for i := range b {
		seed = seed*1664525 + 1013904223
		b[i] = byte(seed >> 24)
	}
	return b
}

// spoil overwrites b and its spare capacity.
func spoil(b []byte) {
	b = b[:cap(b)]
	for i := range b {
		b[i] ^= 0xFF
	}
}

// brief shortens what an error message shows of b.
func brief(b []byte) string {
	if len(b) <= 64 {
		return hex.EncodeToString(b)
	}
	return hex.EncodeToString(b[:64]) + ".."
}

// places shortens what an error message shows of records.
func places(found []api.Found) string {
	s := fmt.Sprint(len(found), " records:")
	for _, f := range found[:min(len(found), 12)] {
		s += fmt.Sprintf(" %d+%d", f.Off, f.Len)
	}
	return s
}

// end returns how many sectors a device needs for all slots of l.
func end(l api.Layout) int {
	return 74 + l.Regions*l.RegionSectors
}

// first returns the first sector of a slot.
func first(l api.Layout, slot int) int {
	return 74 + slot*l.RegionSectors
}

// device returns a device whose sectors are noise, and one of which is dirty.
func device(sectors int) *flashdev.Device {
	d := flashdev.Load(noise(64*sectors, 1))
	d.Write(0, []byte("dirty"))
	return d
}

// kill makes d dead.
func kill(d *flashdev.Device) {
	d.Fuse(0)
	d.Barrier()
}

// left returns how many calls the power of d lasts for, up to 1000, and uses them up.
func left(d *flashdev.Device) int {
	n := 0
	for n < 1000 && d.Barrier() == api.OK {
		n++
	}
	return n
}

// bytesOf returns the bytes that a hexadecimal number stands for.
func bytesOf(t *testing.T, s string) []byte {
	t.Helper()
	b, err := hex.DecodeString(s)
	if err != nil || len(b) != 64 {
		t.Fatalf("%d bytes, %v", len(b), err)
	}
	return b
}

// must returns b, or ends the test if there was an error.
func must(t *testing.T, b []byte, e api.Errno) []byte {
	t.Helper()
	if e != api.OK {
		t.Fatalf("no bytes to test with: error %d", e)
	}
	return b
}

func isSame(a, b api.Found) bool {
	return a.Off == b.Off && a.Len == b.Len && a.Record.Kind == b.Record.Kind && a.Record.Expiry == b.Record.Expiry &&
		bytes.Equal(a.Record.Key, b.Record.Key) && bytes.Equal(a.Record.Value, b.Record.Value)
}

// expectHeader reports an error unless Header returns h and true.
func expectHeader(t *testing.T, what string, d *flashdev.Device, l api.Layout, h api.Header) {
	t.Helper()
	if got, ok := Header(d, l, h.Slot); got != h || !ok {
		t.Errorf("%s: Header(%+v, %d) = %+v, %v, want %+v", what, l, h.Slot, got, ok, h)
	}
}

// expectNoHeader reports an error unless Header returns the zero Header and false.
func expectNoHeader(t *testing.T, what string, d *flashdev.Device, l api.Layout, slot int) {
	t.Helper()
	if got, ok := Header(d, l, slot); got != (api.Header{}) || ok {
		t.Errorf("%s: Header(%+v, %d) = %+v, %v", what, l, slot, got, ok)
	}
}

// expectRegion reports an error unless Region returns those records.
func expectRegion(t *testing.T, what string, d *flashdev.Device, l api.Layout, slot, seq int, want []api.Found) {
	t.Helper()
	if got := Region(d, l, slot, seq); !slices.EqualFunc(got, want, isSame) {
		t.Errorf("%s: Region(%+v, %d, %d) has %s, want %s", what, l, slot, seq, places(got), places(want))
	}
}

// expectBytes reports an error unless Bytes returns want and true.
func expectBytes(t *testing.T, what string, d *flashdev.Device, l api.Layout, slot, seq, off int, want []byte) {
	t.Helper()
	if got, ok := Bytes(d, l, slot, seq, off, len(want)); !bytes.Equal(got, want) || !ok {
		t.Errorf("%s: Bytes(%+v, %d, %d, %d, %d) = %s, %v, want %s", what, l, slot, seq, off, len(want), brief(got), ok, brief(want))
	}
}

// expectNoBytes reports an error unless Bytes returns nil and false.
func expectNoBytes(t *testing.T, what string, d *flashdev.Device, l api.Layout, slot, seq, off, n int) {
	t.Helper()
	if got, ok := Bytes(d, l, slot, seq, off, n); got != nil || ok {
		t.Errorf("%s: Bytes(%+v, %d, %d, %d, %d) = %s, %v", what, l, slot, seq, off, n, brief(got), ok)
	}
}

// expectStream reports an error unless Bytes returns want, and nothing beyond its ends.
func expectStream(t *testing.T, what string, d *flashdev.Device, l api.Layout, slot, seq int, want []byte) {
	t.Helper()
	n := len(want)
	expectBytes(t, what, d, l, slot, seq, 0, want)
	expectBytes(t, what, d, l, slot, seq, n, nil)
	expectNoBytes(t, what, d, l, slot, seq, 0, n+1)
	expectNoBytes(t, what, d, l, slot, seq, n, 1)
	expectNoBytes(t, what, d, l, slot, seq, n+1, 0)
	expectNoBytes(t, what, d, l, slot, seq, -1, 1)
	if n > 0 {
		expectBytes(t, what, d, l, slot, seq, n-1, want[n-1:])
		expectNoBytes(t, what, d, l, slot, seq, n-1, 2)
	}
}

// expectNothing reports an error unless there is no such region at all.
func expectNothing(t *testing.T, what string, d *flashdev.Device, l api.Layout, slot, seq int) {
	t.Helper()
	if got := Region(d, l, slot, seq); got != nil {
		t.Errorf("%s: Region(%+v, %d, %d) has %s", what, l, slot, seq, places(got))
	}
	for _, off := range []int{-1, 0, 1, 59} {
		for _, n := range []int{-1, 0, 1, 59} {
			expectNoBytes(t, what, d, l, slot, seq, off, n)
		}
	}
}

// expectEmpty reports an error unless the region exists, but its stream has no bytes.
func expectEmpty(t *testing.T, what string, d *flashdev.Device, l api.Layout, slot, seq int) {
	t.Helper()
	expectRegion(t, what, d, l, slot, seq, nil)
	expectStream(t, what, d, l, slot, seq, nil)
}

// draft is the stream of a region, written to a device as the chapters 5, 6 and 13 say.
type draft struct {
	t         *testing.T
	l         api.Layout
	slot, seq int
	stream    []byte
	put       []api.Found // the records in it, also those that Region does not find
}

// add appends records to the stream.
func (x *draft) add(records ...api.Record) {
	x.t.Helper()
	for _, r := range records {
		off := len(x.stream)
		b, e := record.Encode(x.l.Version, x.seq, off, r)
		x.stream = append(x.stream, must(x.t, b, e)...)
		x.put = append(x.put, api.Found{Off: off, Len: len(b), Record: r})
	}
}

// raw appends bytes to the stream.
func (x *draft) raw(b []byte) {
	x.stream = append(x.stream, b...)
}

// pad appends zero bytes up to the end of a frame.
func (x *draft) pad() {
	x.raw(make([]byte, (59-len(x.stream)%59)%59))
}

// payload returns what the frame with the index i has.
func (x *draft) payload(i int) []byte {
	return x.stream[59*i : min(59*i+59, len(x.stream))]
}

// frames returns how many frames the stream takes.
func (x *draft) frames() int {
	return (len(x.stream) + 58) / 59
}

// sector returns the sector of the frame with the index i.
func (x *draft) sector(i int) int {
	return first(x.l, x.slot) + 1 + i
}

// writeTo writes all frames to d. The last one is filled up with zeros.
func (x *draft) writeTo(d *flashdev.Device) {
	x.t.Helper()
	for i := range x.frames() {
		b, e := frame.Encode(api.FrameData, x.seq, x.sector(i), x.payload(i))
		if d.Write(x.sector(i), must(x.t, b, e)) != api.OK {
			x.t.Fatalf("no sector %d", x.sector(i))
		}
	}
}

// device returns a device with nothing but the stream and noise.
func (x *draft) device() *flashdev.Device {
	x.t.Helper()
	d := device(end(x.l))
	x.writeTo(d)
	return d
}

// expect reports an error unless Region finds the records with these indices.
func (x *draft) expect(what string, d *flashdev.Device, indices ...int) {
	x.t.Helper()
	var want []api.Found
	for _, i := range indices {
		want = append(want, x.put[i])
	}
	expectRegion(x.t, what, d, x.l, x.slot, x.seq, want)
}

// expectFrames reports an error unless Region and Bytes have what is in the first frames of the stream.
func (x *draft) expectFrames(what string, d *flashdev.Device, frames int) {
	x.t.Helper()
	stream := append(slices.Clone(x.stream), make([]byte, 59)...)[:59*frames]
	expectRegion(x.t, what, d, x.l, x.slot, x.seq, search(stream, x.put))
	expectStream(x.t, what, d, x.l, x.slot, x.seq, stream)
}

// search returns which of the records that were put into a stream are found there.
func search(stream []byte, put []api.Found) []api.Found {
	var found []api.Found
	off := 0
	for off < len(stream) {
		i := slices.IndexFunc(put, func(f api.Found) bool { return f.Off == off && off+f.Len <= len(stream) })
		switch {
		case stream[off] == 0:
			for off++; off%59 != 0; {
				off++
			}
		case i < 0:
			return found
		default:
			found = append(found, put[i])
			off += put[i].Len
		}
	}
	return found
}

// newDraft returns an empty stream in a layout for small tests, whose regions have 7 frames.
func newDraft(t *testing.T, version int) *draft {
	return &draft{t: t, l: layout(3, version, 8, 5), slot: 2, seq: 0x1234_9ABC_DEF0}
}

func TestExampleOfTheChapter(t *testing.T) {
	for version := 1; version <= 2; version++ {
		x := &draft{t: t, l: layout(3, version, 4, 4), slot: 1, seq: 7}
		x.add(tombstone("k"))
		x.raw(make([]byte, 42))
		d := flashdev.New(end(x.l))
		x.writeTo(d)
		x.expect("the example", d, 0)
		expectStream(t, "the example", d, x.l, 1, 7, x.stream)
	}
}

func TestKnownRegions(t *testing.T) {
	for _, x := range known {
		for _, d := range []*flashdev.Device{flashdev.New(end(x.l)), device(end(x.l))} {
			var stream []byte
			for i, s := range x.sectors {
				b := bytesOf(t, s)
				d.Write(x.first+i, b)
				if i > 0 {
					stream = append(stream, b[1:60]...)
				}
			}
			expectHeader(t, "known sectors", d, x.l, x.h)
			expectRegion(t, "known sectors", d, x.l, x.h.Slot, x.h.Seq, x.found)
			expectStream(t, "known sectors", d, x.l, x.h.Slot, x.h.Seq, stream)
			for slot := range x.l.Regions {
				if slot != x.h.Slot {
					expectNoHeader(t, "another slot", d, x.l, slot)
					expectEmpty(t, "another slot", d, x.l, slot, x.h.Seq)
				}
			}
		}
	}
}

// writeHeader writes h to a sector.
func writeHeader(t *testing.T, d *flashdev.Device, h api.Header, sector int) {
	t.Helper()
	b, e := header.Encode(h, sector)
	if d.Write(sector, must(t, b, e)) != api.OK {
		t.Fatalf("no sector %d", sector)
	}
}

func TestHeaderOfAllLayouts(t *testing.T) {
	for i, l := range layouts() {
		d := device(end(l))
		for slot := range l.Regions {
			expectNoHeader(t, "noise", d, l, slot)
			writeHeader(t, d, of(l, slot, 100*i+slot+1), first(l, slot))
			expectHeader(t, "all layouts", d, l, of(l, slot, 100*i+slot+1))
		}
		for slot := range l.Regions {
			expectHeader(t, "all slots have one", d, l, of(l, slot, 100*i+slot+1))
		}
	}
}

func TestHeaderOfAllHeaders(t *testing.T) {
	for version := 1; version <= 2; version++ {
		for _, id := range []int{1, 255, 256, 1<<32 - 1} {
			l := layout(id, version, 4, 5)
			d := device(end(l))
			for _, seq := range []int{1, 2, 255, 256, 1<<32 + 1, 1<<48 - 2, 1<<48 - 1} {
				for _, tail := range []int{0, 1, seq / 2, seq - 1, seq} {
					for _, now := range []int{0, 1, 1 << 32, 1<<39 - 1, 1 << 39} {
						h := api.Header{Version: version, Slot: seq % 5, Layout: id, Seq: seq, Tail: tail, Now: now}
						writeHeader(t, d, h, first(l, h.Slot))
						expectHeader(t, "all headers", d, l, h)
					}
				}
			}
		}
	}
}

// TestHeaderOfNoSlot has valid headers where the slots beside those of the layout would be.
func TestHeaderOfNoSlot(t *testing.T) {
	for _, n := range []int{2, 4, 64} {
		for regions := 4; regions <= 15; regions++ {
			l := layout(9, 1+regions%2, n, regions)
			d := device(74 + 17*n)
			for slot := range 16 {
				writeHeader(t, d, of(l, slot, 5), first(l, slot))
			}
			expectHeader(t, "the first slot", d, l, of(l, 0, 5))
			expectHeader(t, "the last slot", d, l, of(l, regions-1, 5))
			for _, slot := range slices.Concat(huge, []int{-256, -2, -1, regions, regions + 1, 15, 16, 17, 256, 256 + regions - 1, 1 << 32}) {
				expectNoHeader(t, "no such slot", d, l, slot)
			}
		}
	}
}

// TestHeaderOfSectorsWithoutOne has what may lie where a header is looked for.
func TestHeaderOfSectorsWithoutOne(t *testing.T) {
	l := layout(3, 2, 4, 6)
	d := flashdev.New(end(l))
	for slot := range 6 {
		expectNoHeader(t, "never written", d, l, slot)
	}
	h := of(l, 2, 70000)
	b, e := header.Encode(h, 82)
	payload := bytes.Clone(must(t, b, e)[1:60])
	write := func(what string, b []byte) {
		t.Helper()
		d.Write(82, b)
		expectNoHeader(t, what, d, l, 2)
	}
	for _, kind := range []int{api.FrameData, api.FrameSuper, api.FramePlan} {
		b, e := frame.Encode(kind, 0, 82, payload)
		write("a frame of another kind", must(t, b, e))
	}
	for _, salt := range []int{1, 70000, 1 << 32} {
		b, e := frame.Encode(api.FrameHeader, salt, 82, payload)
		write("a frame with a salt", must(t, b, e))
	}
	for _, sector := range []int{0, 74, 78, 81, 83, 86, 82 + 256, 82 + 65536} {
		b, e := header.Encode(h, sector)
		write("a header for another sector", must(t, b, e))
	}
	payload[58] = 1
	b, e = frame.Encode(api.FrameHeader, 0, 82, payload)
	write("a header with something behind it", must(t, b, e))
	payload[58], payload[12] = 0, 0xFF // the Tail becomes greater than Seq
	b, e = frame.Encode(api.FrameHeader, 0, 82, payload)
	write("a header that is not valid", must(t, b, e))
	write("nothing", nil)
	writeHeader(t, d, h, 82)
	expectHeader(t, "the header itself", d, l, h)
}

// TestHeaderOfAnotherPlace has valid headers, each with one number of another layout or of another slot.
func TestHeaderOfAnotherPlace(t *testing.T) {
	for version := 1; version <= 2; version++ {
		l := layout(0x01020304, version, 4, 6)
		d := flashdev.New(end(l))
		for slot := range 6 {
			sector := first(l, slot)
			h := of(l, slot, 7)
			h.Version = 3 - version
			writeHeader(t, d, h, sector)
			expectNoHeader(t, "another Version", d, l, slot)
			for bit := range 32 {
				h = of(l, slot, 7)
				h.Layout ^= 1 << bit
				writeHeader(t, d, h, sector)
				expectNoHeader(t, "another Layout", d, l, slot)
			}
			for other := range 16 {
				if other != slot {
					writeHeader(t, d, of(l, other, 7), sector)
					expectNoHeader(t, "another Slot", d, l, slot)
				}
			}
			writeHeader(t, d, of(l, slot, 7), sector)
			expectHeader(t, "the slot itself", d, l, of(l, slot, 7))
		}
	}
}

// TestHeaderOfOtherLayouts reads the headers of a layout as one with another number.
func TestHeaderOfOtherLayouts(t *testing.T) {
	l := layout(3, 1, 8, 8)
	d := flashdev.New(end(l))
	for slot := range 8 {
		writeHeader(t, d, of(l, slot, 1+slot), first(l, slot))
	}
	expectHeader(t, "fewer regions", d, layout(3, 1, 8, 4), of(l, 3, 4))
	expectHeader(t, "the same place", d, layout(3, 1, 2, 4), of(l, 0, 1))
	for slot := range 8 {
		expectNoHeader(t, "another ID", d, layout(4, 1, 8, 8), slot)
		expectNoHeader(t, "another Version", d, layout(3, 2, 8, 8), slot)
		if slot > 0 {
			expectNoHeader(t, "another RegionSectors", d, layout(3, 1, 4, 8), slot)
			expectNoHeader(t, "another RegionSectors", d, layout(3, 1, 16, 8), slot)
		}
	}
}

func TestHeaderWithAChangedBit(t *testing.T) {
	l := layout(3, 1, 4, 6)
	h := of(l, 3, 1<<40+5)
	d := flashdev.New(end(l))
	writeHeader(t, d, h, 86)
	b, _ := d.Read(86)
	for bit := range 512 {
		b[bit/8] ^= 1 << (bit % 8)
		d.Write(86, b)
		expectNoHeader(t, fmt.Sprint("without the bit ", bit), d, l, 3)
		b[bit/8] ^= 1 << (bit % 8)
	}
	d.Write(86, b)
	expectHeader(t, "all bits are back", d, l, h)
}

func TestHeaderOnDevicesThatFail(t *testing.T) {
	l := layout(3, 2, 4, 6)
	whole := device(end(l))
	for slot := range 6 {
		writeHeader(t, whole, of(l, slot, 9), first(l, slot))
	}
	for sectors := 1; sectors <= end(l); sectors++ {
		d := flashdev.Load(whole.Image()[:64*sectors])
		for slot := range 6 {
			if sectors <= first(l, slot) {
				expectNoHeader(t, "too few sectors", d, l, slot)
			} else {
				expectHeader(t, "enough sectors", d, l, of(l, slot, 9))
			}
		}
	}
	whole.Fuse(0)
	expectHeader(t, "no power left", whole, l, of(l, 1, 9))
	kill(whole)
	for slot := range 6 {
		expectNoHeader(t, "a dead device", whole, l, slot)
	}
}

// TestLayoutsThatAreNotWellFormed has headers and data where the slots of such layouts would be.
func TestLayoutsThatAreNotWellFormed(t *testing.T) {
	for _, l := range []api.Layout{layout(3, 1, 4, 4), layout(1, 2, 2, 16), layout(1<<32-1, 1, 2048, 9), {}} {
		for _, bad := range append(noLayouts(l), api.Layout{}) {
			for _, slot := range []int{0, 1, 3} {
				near := slot == 0 || bad.RegionSectors >= 0 && bad.RegionSectors < 100
				d := device(400)
				if near {
					writeAll(t, d, l, bad, slot)
				}
				expectNoHeader(t, "not well-formed", d, bad, slot)
				expectNothing(t, "not well-formed", d, bad, slot, 7)
			}
			for _, slot := range slices.Concat(huge, []int{-1, 16}) {
				expectNoHeader(t, "not well-formed", device(76), bad, slot)
				expectNothing(t, "not well-formed", device(76), bad, slot, 7)
			}
		}
	}
}

// writeAll writes the header and the data of a region to a slot of bad, with the numbers of the well-formed layout l otherwise.
func writeAll(t *testing.T, d *flashdev.Device, l, bad api.Layout, slot int) {
	t.Helper()
	if l == (api.Layout{}) {
		return
	}
	sector := first(bad, slot)
	writeHeader(t, d, of(l, slot, 7), sector)
	x := &draft{t: t, l: l, slot: slot, seq: 7}
	x.add(tombstone("k"), sized(42))
	b, e := frame.Encode(api.FrameData, 7, sector+1, x.stream)
	d.Write(sector+1, must(t, b, e))
}

// TestDataOfNoSlot has data where the slots beside those of the layout would be.
func TestDataOfNoSlot(t *testing.T) {
	for _, n := range []int{2, 4, 64} {
		for regions := 4; regions <= 16; regions++ {
			l := layout(9, 1+regions%2, n, regions)
			d := device(74 + 18*n)
			for slot := -1; slot < 18; slot++ {
				if first(l, slot) >= 0 {
					x := &draft{t: t, l: l, slot: slot, seq: 5}
					x.add(sized(59))
					x.writeTo(d)
				}
			}
			for slot := range regions {
				if len(Region(d, l, slot, 5)) != 1 {
					t.Errorf("%+v: no record in the slot %d", l, slot)
				}
			}
			for _, slot := range slices.Concat(huge, []int{-256, -2, -1, regions, regions + 1, 16, 17, 256, 256 + regions - 1, 1 << 32}) {
				expectNothing(t, "no such slot", d, l, slot, 5)
			}
		}
	}
}

// TestSeqs has regions with sequence numbers at and beside both ends. Frames and records can have 0 and 2^48, too, but no region has.
func TestSeqs(t *testing.T) {
	for version := 1; version <= 2; version++ {
		for _, seq := range []int{1, 2, 255, 256, 1<<32 - 1, 1 << 32, 1<<48 - 2, 1<<48 - 1} {
			x := newDraft(t, version)
			x.seq = seq
			x.add(sized(20), sized(70), flush())
			x.expect("a region", x.device(), 0, 1, 2)
			x.expectFrames("a region", x.device(), 2)
		}
		for _, seq := range []int{0, 1 << 48, 1<<48 + 1, 1<<48 + 7, 1 << 62, math.MaxInt} {
			x := newDraft(t, version)
			x.seq = seq
			x.add(sized(20), sized(70), flush())
			expectNothing(t, "no such seq", x.device(), x.l, x.slot, seq)
		}
		for _, seq := range slices.Concat(huge, []int{-7, -2, -1}) {
			x := newDraft(t, version)
			x.add(sized(59))
			expectNothing(t, "no such seq", x.device(), x.l, x.slot, seq)
		}
	}
}

// TestOtherSeqs reads a region as one whose sequence number differs in its lowest 32 bits alone, in its other bits alone, and in one bit.
func TestOtherSeqs(t *testing.T) {
	for version := 1; version <= 2; version++ {
		x := newDraft(t, version)
		x.add(sized(20), sized(70), flush(), sized(59))
		d := x.device()
		others := []int{x.seq ^ 0xFFFF_FFFF, x.seq &^ 0xFFFF_FFFF, x.seq ^ 0xFFFF_0000_0000, x.seq & 0xFFFF_FFFF, x.seq - 1, x.seq + 1, x.seq - 1<<32, x.seq + 1<<32, 1, 1<<48 - 1}
		for bit := range 48 {
			others = append(others, x.seq^1<<bit)
		}
		for _, seq := range others {
			expectEmpty(t, "another seq", d, x.l, x.slot, seq)
			y := newDraft(t, version)
			y.seq = seq
			y.add(sized(59), sized(20))
			y.writeTo(d)
			y.expect("the other seq", d, 0, 1)
			expectEmpty(t, "the data of another seq", d, x.l, x.slot, x.seq)
			x.writeTo(d)
		}
		x.expect("the seq itself", d, 0, 1, 2, 3)
	}
}

// TestNoRecords has a region that was opened, and nothing more.
func TestNoRecords(t *testing.T) {
	for i, l := range layouts() {
		for _, d := range []*flashdev.Device{flashdev.New(end(l)), device(end(l))} {
			if _, e := region.Open(d, l, of(l, i%4, 1+i)); e != api.OK {
				t.Fatalf("Open: error %d", e)
			}
			for slot := range l.Regions {
				expectEmpty(t, "no records", d, l, slot, 1+i)
			}
		}
	}
}

func TestRecordsOfAllKinds(t *testing.T) {
	for version := 1; version <= 2; version++ {
		for _, r := range []api.Record{
			flush(),
			tombstone("k"), tombstone(string(noise(255, 1))), tombstone("\x00"),
			value("k", "", 0), value("k", "v", 1), value("\x00\x00", "\x00\x00\x00", 0), value("k", "v", most(version)),
			value(string(noise(255, 1)), string(noise(98, 2)), 5), value("k", string(make([]byte, 200)), 1<<31),
		} {
			x := newDraft(t, version)
			x.add(r)
			x.expect("alone", x.device(), 0)
			x.add(tombstone("next"), r)
			if len(x.stream) > 413 {
				continue
			}
			x.expect("twice", x.device(), 0, 1, 2)
			x.expectFrames("twice", x.device(), x.frames())
		}
	}
}

// TestTheGreatestRecords has records of 65,807 bytes, in the only regions that are great enough.
func TestTheGreatestRecords(t *testing.T) {
	for version := 1; version <= 2; version++ {
		x := &draft{t: t, l: layout(3, version, 2048, 4), slot: 3, seq: 9}
		x.add(tombstone("k"), value(string(noise(255, 1)), string(noise(65536, 2)), most(version)), flush())
		x.pad()
		x.add(value("k", string(make([]byte, 50000)), 0), flush())
		x.expect("great records", x.device(), 0, 1, 2, 3, 4)
		x.expectFrames("great records", x.device(), x.frames())
	}
}

// TestRecordsAtEdges has records that begin and end at, before and behind the edges of sectors, and lie over several ones.
func TestRecordsAtEdges(t *testing.T) {
	for version := 1; version <= 2; version++ {
		for _, sizes := range [][]int{
			{59}, {59, 59}, {59, 59, 59, 59, 59, 59, 59}, {43, 16}, {16, 43, 16}, {20, 39, 59, 18, 41},
			{118}, {118, 16}, {236, 177}, {100, 18, 16}, {100, 17, 16}, {100, 19, 16},
			{58, 60}, {60, 58}, {58, 16}, {60, 16}, {58, 61, 57, 60}, {300, 30}, {17, 59, 59, 59, 42},
			{177}, {413}, {397, 16}, {16, 397}, {16, 380, 17}, {412}, {411},
		} {
			x := newDraft(t, version)
			var all []int
			for i, n := range sizes {
				x.add(sized(n))
				all = append(all, i)
			}
			x.expect(fmt.Sprint("records of ", sizes), x.device(), all...)
			x.expectFrames(fmt.Sprint("records of ", sizes), x.device(), x.frames())
		}
	}
}

// TestRecordsAtEveryOffset has a record of every length, and another one behind it.
func TestRecordsAtEveryOffset(t *testing.T) {
	for n := 16; n <= 413; n++ {
		x := newDraft(t, 1+n%2)
		x.add(sized(n))
		if n+16 > 413 {
			x.expect("one record", x.device(), 0)
			continue
		}
		x.add(sized(min(16+n%70, 413-n)))
		x.expect("two records", x.device(), 0, 1)
		x.expectFrames("two records", x.device(), x.frames())
	}
}

// TestFullRegions has regions of all sizes that are full to the last byte, and, behind their slots, data that would go on.
func TestFullRegions(t *testing.T) {
	for i, l := range layouts() {
		capacity := 59 * (l.RegionSectors - 1)
		for _, slot := range []int{0, 1, l.Regions - 1} {
			x := &draft{t: t, l: l, slot: slot, seq: 1 + i}
			for room := capacity; room > 0; room = capacity - len(x.stream) {
				x.add(sized(min(room, 60300)))
			}
			n := len(x.put)
			x.add(sized(59)) // in the first sector of the next slot
			d := device(end(l) + 1)
			x.writeTo(d)
			expectRegion(t, "a full region", d, l, slot, x.seq, x.put[:n])
			expectStream(t, "a full region", d, l, slot, x.seq, x.stream[:capacity])
		}
	}
}

// TestARecordBeyondTheSlot has one whose last bytes would be in the sector behind the slot.
func TestARecordBeyondTheSlot(t *testing.T) {
	for version := 1; version <= 2; version++ {
		x := newDraft(t, version)
		x.add(sized(340), sized(74))
		d := device(end(x.l))
		x.writeTo(d)
		x.expect("a record beyond the slot", d, 0)
		expectStream(t, "a record beyond the slot", d, x.l, x.slot, x.seq, x.stream[:413])
	}
}

// TestManyRecords has as many records as a region can have.
func TestManyRecords(t *testing.T) {
	x := &draft{t: t, l: layout(3, 2, 2048, 4), slot: 1, seq: 5}
	for len(x.stream)+16 <= 59*2047 {
		x.add(flush())
	}
	expectRegion(t, "many records", x.device(), x.l, 1, 5, x.put)
}

// TestZeroBytes has zero bytes where a record is looked for: what follows them in the same payload does not count.
func TestZeroBytes(t *testing.T) {
	type part = []byte
	flush16, r17, r41, r43, r58, r59 := sized(16), sized(17), sized(41), sized(43), sized(58), sized(59)
	for version := 1; version <= 2; version++ {
		for _, c := range []struct {
			what  string
			parts []any // records, and bytes in between
			want  []int
		}{
			{"in the middle of a payload", []any{r17, make(part, 42), r17}, []int{0, 1}},
			{"one byte in the middle, and a record behind it", []any{r17, part{0}, r41, r17}, []int{0, 2}},
			{"one byte in the middle, and noise behind it", []any{r17, part{0}, noise(41, 3), r17}, []int{0, 1}},
			{"one byte in the middle, and a record over the edge behind it", []any{r17, part{0}, r59}, []int{0}},
			{"the last byte of a payload", []any{r58, part{0}, r17}, []int{0, 1}},
			{"the last two bytes of a payload", []any{r41, flush16, part{0, 0}, r17}, []int{0, 1, 2}},
			{"at the start of the stream", []any{part{0}, r58, r17}, []int{1}},
			{"at the start of a payload", []any{r59, part{0}, r58, r17}, []int{0, 2}},
			{"at the start of a payload, and a record over the edge behind it", []any{r59, part{0}, r59, r17}, []int{0}},
			{"at the start of a payload, and noise behind it", []any{r43, flush16, part{0}, noise(58, 4), r17}, []int{0, 1, 2}},
			{"a whole payload", []any{make(part, 59), r17}, []int{0}},
			{"whole payloads", []any{r17, make(part, 42+59+59), r17, make(part, 42+59), r59}, []int{0, 1, 2}},
			{"whole payloads behind a record that ends at an edge", []any{r59, make(part, 59*4), r43, flush16}, []int{0, 1, 2}},
			{"up to the end of the stream", []any{r17, make(part, 42)}, []int{0}},
			{"the last byte of the stream", []any{r58, part{0}}, []int{0}},
			{"the last payload", []any{r59, make(part, 59)}, []int{0}},
			{"all payloads", []any{make(part, 59*7)}, nil},
			{"up to the end of the slot", []any{r17, make(part, 59*7-17)}, []int{0}},
			{"one byte before the end of the slot", []any{sized(59*7 - 1), part{0}}, []int{0}},
			{"one byte, and noise up to the end of the stream", []any{r17, part{0}, noise(41, 5)}, []int{0}},
			{"zeros in a record", []any{value("\x00", string(make([]byte, 100)), 0), tombstone("\x00\x00")}, []int{0, 1}},
			{"noise behind zeros", []any{r17, make(part, 42), part{7}, make(part, 58), r17}, []int{0}},
		} {
			x := newDraft(t, version)
			for _, p := range c.parts {
				switch p := p.(type) {
				case api.Record:
					x.add(p)
				case part:
					x.raw(p)
				}
			}
			x.expect(c.what, x.device(), c.want...)
			x.expectFrames(c.what, x.device(), x.frames())
		}
	}
}

// TestZeroBytesAtEveryOffset has one zero byte behind a record of every length, and then a record, and one in the next payload.
func TestZeroBytesAtEveryOffset(t *testing.T) {
	for n := 16; n <= 177; n++ {
		x := newDraft(t, 1+n%2)
		x.add(sized(n))
		x.raw([]byte{0})
		next := (n/59 + 1) * 59
		if len(x.stream)+16 <= next {
			x.add(flush())
			x.raw(noise(next-len(x.stream), uint32(n)))
			x.add(sized(30))
			x.expect("a record behind the zero byte", x.device(), 0, 2)
			continue
		}
		x.raw(noise(next-len(x.stream), uint32(n)))
		x.add(sized(30))
		x.expect("noise behind the zero byte", x.device(), 0, 1)
	}
}

// broken returns a stream with two records, one of 88 bytes whose bytes change makes, and further valid records behind it and at the next edges.
func broken(t *testing.T, version int, change func(x *draft, b []byte) []byte) *draft {
	t.Helper()
	x := newDraft(t, version)
	x.add(sized(20), sized(33))
	off := len(x.stream)
	x.add(value("key", string(noise(69, 1)), 258))
	x.stream = append(x.stream[:off], change(x, bytes.Clone(x.stream[off:]))...)
	x.put = x.put[:2]
	x.add(flush(), sized(30))
	x.pad()
	x.add(sized(59), sized(20))
	return x
}

// expectEnd reports an error unless nothing is found behind the first two records, and the stream goes on.
func (x *draft) expectEnd(what string) {
	x.t.Helper()
	d := x.device()
	x.expect(what, d, 0, 1)
	expectBytes(x.t, what, d, x.l, x.slot, x.seq, 0, x.stream)
}

// TestChangedRecords changes every byte of a record, in the head, the key and the value.
func TestChangedRecords(t *testing.T) {
	for version := 1; version <= 2; version++ {
		for i := range 88 {
			for _, by := range []byte{1, 2, 4, 8, 16, 32, 64, 128, 255} {
				x := broken(t, version, func(_ *draft, b []byte) []byte {
					b[i] ^= by
					return b
				})
				x.expectEnd(fmt.Sprintf("the byte %d changed by %d", i, by))
			}
		}
		x := broken(t, version, func(_ *draft, b []byte) []byte { return b })
		if got := Region(x.device(), x.l, x.slot, x.seq); len(got) != 7 {
			t.Errorf("nothing is changed: %s", places(got))
		}
	}
}

// TestAZeroInThePlaceOfAMark has a record whose first byte is 0: the search goes on at the next edge.
func TestAZeroInThePlaceOfAMark(t *testing.T) {
	for version := 1; version <= 2; version++ {
		x := newDraft(t, version)
		x.add(sized(20), sized(20), sized(78), sized(20)) // the key of the third one lies over the first edge, and it ends at the second one
		x.pad()
		x.add(sized(40))
		x.stream[20] = 0
		x.expect("the second record begins with 0, and the third one is no record at the edge", x.device(), 0)
		x.stream[59] = 0
		x.expect("there is a 0 at the edge, too", x.device(), 0, 3, 4)
		x.stream[118] = 0
		x.expect("and at the next one", x.device(), 0, 4)
	}
}

// TestRecordsOfOtherPlaces has a valid record that belongs to another place, or to another format.
func TestRecordsOfOtherPlaces(t *testing.T) {
	for version := 1; version <= 2; version++ {
		r := value("key", string(noise(69, 1)), 258)
		at := func(what string, version, seq, off int) {
			t.Helper()
			b, e := record.Encode(version, seq, off, r)
			must(t, b, e)
			broken(t, version, func(*draft, []byte) []byte { return b }).expectEnd(what)
		}
		seq := newDraft(t, version).seq
		for _, other := range []int{0, 1, seq - 1, seq + 1, seq ^ 1<<31, seq ^ 1<<32, seq ^ 1<<47, seq & 0xFFFF_FFFF, seq &^ 0xFFFF_FFFF} {
			at("a record of another seq", version, other, 53)
		}
		for _, off := range []int{0, 20, 52, 54, 59, 112, 53 + 256, 53 + 65536, 1<<31 - 1} {
			at("a record of another offset", version, seq, off)
		}
		at("a record of another offset and another seq", version, seq-1, 54)
		b, e := record.Encode(3-version, seq, 53, r)
		must(t, b, e)
		broken(t, version, func(*draft, []byte) []byte { return b }).expectEnd("a record of another Version")
	}
}

// TestBytesThatAreNoRecord has other things where a record is looked for.
func TestBytesThatAreNoRecord(t *testing.T) {
	for version := 1; version <= 2; version++ {
		for what, b := range map[string][]byte{
			"one byte":            {1},
			"a mark":              {0xA0 + byte(version)},
			"the other mark":      {0xA3 - byte(version)},
			"marks":               bytes.Repeat([]byte{0xA0 + byte(version)}, 40),
			"ones":                bytes.Repeat([]byte{0xFF}, 40),
			"noise":               noise(40, 2),
			"a byte before zeros": append([]byte{5}, make([]byte, 100)...),
			"a great length":      {0xA0 + byte(version), 1, 16, 255, 255, 255, 255, 255},
		} {
			broken(t, version, func(*draft, []byte) []byte { return b }).expectEnd(what)
			x := newDraft(t, version)
			x.raw(b)
			x.add(sized(20))
			x.pad()
			x.add(sized(20))
			x.expect(what+" at the start", x.device())
		}
		broken(t, version, func(_ *draft, b []byte) []byte { return b[1:] }).expectEnd("a record without its first byte")
		broken(t, version, func(_ *draft, b []byte) []byte { return b[:87] }).expectEnd("a record without its last byte")
	}
}

// TestRecordsThatAreCutOff has records of which only the first frames are there, also some whose missing bytes are zeros.
func TestRecordsThatAreCutOff(t *testing.T) {
	for version := 1; version <= 2; version++ {
		for _, n := range []int{17, 18, 43, 59, 60, 100, 118, 119, 300} {
			for _, r := range []api.Record{sized(n), value("k", string(make([]byte, n-17)), 0)} {
				for _, before := range []int{0, 20, 42, 43, 58, 59, 60, 100} {
					x := newDraft(t, version)
					if before > 0 {
						x.add(sized(before))
					}
					x.add(r)
					x.expectCutOff()
				}
			}
		}
	}
}

// expectCutOff reports an error unless Region returns the records that end within the first frames, however many of these there are.
func (x *draft) expectCutOff() {
	x.t.Helper()
	d := x.device()
	for frames := x.frames(); frames >= 0; frames-- {
		d.Write(x.sector(frames), nil)
		var want []api.Found
		for _, f := range x.put {
			if f.Off+f.Len <= 59*frames {
				want = append(want, f)
			}
		}
		expectRegion(x.t, fmt.Sprint(frames, " frames of records"), d, x.l, x.slot, x.seq, want)
	}
}

// TestVersions reads records in another format: there are none, but Bytes has the same bytes.
func TestVersions(t *testing.T) {
	for version := 1; version <= 2; version++ {
		x := newDraft(t, version)
		x.add(sized(20), sized(70), flush())
		d := x.device()
		other := layout(3, 3-version, 8, 5)
		expectRegion(t, "another Version", d, other, x.slot, x.seq, nil)
		expectBytes(t, "another Version", d, other, x.slot, x.seq, 0, x.stream)
		expectRegion(t, "another ID", d, layout(4, version, 8, 5), x.slot, x.seq, x.put)
		expectRegion(t, "another number of regions", d, layout(3, version, 8, 16), x.slot, x.seq, x.put)
		expectRegion(t, "a smaller region at the same place", d, layout(3, version, 2, 16), 2*4, x.seq, x.put[:1])
		expectBytes(t, "a smaller region at the same place", d, layout(3, version, 2, 16), 2*4, x.seq, 0, x.stream[:59])
		expectEmpty(t, "another place", d, layout(3, version, 4, 5), x.slot, x.seq)
	}
}

// spoiled is a sector in the place of a frame, and what it is.
type spoiled struct {
	what string
	b    []byte
}

// spoilers returns sectors that are not the frame with the index i of x.
func (x *draft) spoilers(i int) []spoiled {
	x.t.Helper()
	all := []spoiled{{"zeros", nil}, {"noise", noise(64, 9)}, {"a payload without a frame", x.payload(i)}}
	add := func(what string, kind, salt, sector int) {
		b, e := frame.Encode(kind, salt, sector, x.payload(i))
		all = append(all, spoiled{fmt.Sprint(what, " ", kind, " ", salt, " ", sector), must(x.t, b, e)})
	}
	sector := x.sector(i)
	for _, kind := range []int{api.FrameHeader, api.FrameSuper, api.FramePlan} {
		add("another kind", kind, x.seq, sector)
		add("another kind and no salt", kind, 0, sector)
	}
	for _, salt := range []int{0, 1, x.seq - 1, x.seq + 1, x.seq ^ 1<<31, x.seq ^ 1<<32, x.seq ^ 1<<47, x.seq & 0xFFFF_FFFF, x.seq &^ 0xFFFF_FFFF, x.seq + 1<<48} {
		add("another salt", api.FrameData, salt, sector)
	}
	for _, other := range []int{0, i, i + 1, sector - 1, sector + 1, sector - x.l.RegionSectors, sector + x.l.RegionSectors, sector ^ 1<<16} {
		add("another sector", api.FrameData, x.seq, other)
	}
	b, e := frame.Encode(api.FrameData, x.seq, sector, x.payload(i))
	must(x.t, b, e)
	for bit := range 512 {
		changed := bytes.Clone(b)
		changed[bit/8] ^= 1 << (bit % 8)
		all = append(all, spoiled{fmt.Sprint("another bit ", bit), changed})
	}
	return all
}

// TestTheStreamEnds has each data sector spoiled, with valid frames behind it, with records that end at the edges and with others.
func TestTheStreamEnds(t *testing.T) {
	for version := 1; version <= 2; version++ {
		for _, n := range []int{59, 40, 100} {
			x := newDraft(t, version)
			for len(x.stream)+n <= 413 {
				x.add(sized(n))
			}
			x.pad()
			d := x.device()
			x.expectFrames("all frames", d, 7)
			for i := range 7 {
				for _, s := range x.spoilers(i) {
					d.Write(x.sector(i), s.b)
					x.expectFrames(fmt.Sprint(s.what, " in the frame ", i), d, i)
				}
				x.writeTo(d)
			}
			x.expectFrames("all frames again", d, 7)
		}
	}
}

// TestTheStreamEndsWithTheDevice has devices that end within the region.
func TestTheStreamEndsWithTheDevice(t *testing.T) {
	for version := 1; version <= 2; version++ {
		x := newDraft(t, version)
		x.add(sized(59), sized(20), sized(39), sized(100), sized(180), flush())
		image := x.device().Image()
		for frames := range 8 {
			d := flashdev.Load(image[:64*x.sector(frames)])
			x.expectFrames(fmt.Sprint("a device with ", frames, " frames"), d, frames)
		}
		for sectors := 1; sectors <= x.sector(0); sectors++ {
			expectEmpty(t, "a device without the data", flashdev.Load(image[:64*sectors]), x.l, x.slot, x.seq)
		}
	}
}

func TestDeadDevices(t *testing.T) {
	x := newDraft(t, 1)
	x.add(sized(59), sized(20), sized(39))
	d := x.device()
	d.Fuse(0)
	x.expectFrames("no power left", d, 2)
	kill(d)
	expectEmpty(t, "a dead device", d, x.l, x.slot, x.seq)
	expectNothing(t, "a dead device", d, x.l, -1, x.seq)
	expectNothing(t, "a dead device", d, x.l, 5, x.seq)
	expectNothing(t, "a dead device", d, x.l, x.slot, 0)
}

// TestNoDevice has nil, and the zero Device, which has no sectors.
func TestNoDevice(t *testing.T) {
	for _, d := range []*flashdev.Device{nil, new(flashdev.Device)} {
		for _, l := range layouts() {
			for _, slot := range []int{0, 1, l.Regions - 1} {
				expectNoHeader(t, "no device", d, l, slot)
				expectEmpty(t, "no device", d, l, slot, 7)
				expectNothing(t, "no device", d, l, slot, 0)
				expectNothing(t, "no device", d, l, slot, 1<<48)
			}
			for _, slot := range slices.Concat(huge, []int{-1, l.Regions}) {
				expectNoHeader(t, "no device", d, l, slot)
				expectNothing(t, "no device", d, l, slot, 7)
			}
		}
		for _, l := range append(noLayouts(layout(3, 1, 4, 4)), api.Layout{}) {
			expectNoHeader(t, "no device", d, l, 0)
			expectNothing(t, "no device", d, l, 0, 7)
		}
	}
}

// TestBytes has all parts of streams, and parts that reach beyond their ends.
func TestBytes(t *testing.T) {
	for frames := range 4 {
		x := &draft{t: t, l: layout(7, 1+frames%2, 4, 5), slot: frames, seq: 9}
		x.raw(noise(59*frames, 5))
		d := x.device()
		for off := -3; off <= len(x.stream)+3; off++ {
			for n := -3; n <= len(x.stream)+3; n++ {
				if off >= 0 && n >= 0 && off+n <= len(x.stream) {
					expectBytes(t, "a part", d, x.l, x.slot, 9, off, x.stream[off:off+n])
				} else {
					expectNoBytes(t, "no part", d, x.l, x.slot, 9, off, n)
				}
			}
		}
	}
}

func TestBytesOfNoPlace(t *testing.T) {
	for _, frames := range []int{0, 1, 3} {
		x := &draft{t: t, l: layout(7, 1, 4, 5), slot: 3, seq: 9}
		x.raw(noise(59*frames, 5))
		d := x.device()
		for _, far := range slices.Concat(huge, []int{-178, -59, -1, 178, 1 << 31, 1 << 32, 1<<32 + 1}) {
			for _, near := range []int{-1, 0, 1, 58, 59, 60, 176, 177, 178} {
				expectNoBytes(t, "far away", d, x.l, 3, 9, far, near)
				expectNoBytes(t, "too many", d, x.l, 3, 9, near, far)
			}
			for _, other := range huge {
				expectNoBytes(t, "far away and too many", d, x.l, 3, 9, far, other)
			}
		}
	}
}

// TestBytesOfRecords has the bytes of each record that Region finds, at its place.
func TestBytesOfRecords(t *testing.T) {
	for version := 1; version <= 2; version++ {
		x := newDraft(t, version)
		x.add(sized(20), sized(70))
		x.pad()
		x.add(sized(59), sized(18), sized(150))
		d := x.device()
		for _, f := range Region(d, x.l, x.slot, x.seq) {
			b, ok := Bytes(d, x.l, x.slot, x.seq, f.Off, f.Len)
			want, e := record.Encode(version, x.seq, f.Off, f.Record)
			if !ok || !bytes.Equal(b, must(t, want, e)) {
				t.Errorf("the bytes of the record at %d: %s, %v, want %s", f.Off, brief(b), ok, brief(want))
			}
		}
	}
}

// TestBytesDoNotAskForWhatIsBehind has parts in front of a sector that is no frame, up to its edge.
func TestBytesDoNotAskForWhatIsBehind(t *testing.T) {
	x := newDraft(t, 1)
	x.raw(noise(413, 5))
	d := x.device()
	d.Write(x.sector(3), nil)
	expectBytes(t, "in front of the edge", d, x.l, x.slot, x.seq, 170, x.stream[170:177])
	expectNoBytes(t, "over the edge", d, x.l, x.slot, x.seq, 170, 8)
	expectNoBytes(t, "in the sector", d, x.l, x.slot, x.seq, 177, 59)
	expectNoBytes(t, "in a frame behind it", d, x.l, x.slot, x.seq, 236, 59)
}

// life is a region that package region writes, and what was appended to it.
type life struct {
	t   *testing.T
	d   *flashdev.Device
	r   *region.Region
	l   api.Layout
	put []api.Found
}

// open opens a region on d.
func open(t *testing.T, d *flashdev.Device, l api.Layout, h api.Header) *life {
	t.Helper()
	r, e := region.Open(d, l, h)
	if e != api.OK {
		t.Fatalf("Open: error %d", e)
	}
	return &life{t: t, d: d, r: r, l: l}
}

// append appends records of these sizes, and synchronizes for each 0.
func (x *life) append(sizes ...int) {
	x.t.Helper()
	for _, n := range sizes {
		if n == 0 {
			if e := x.r.Sync(); e != api.OK {
				x.t.Fatalf("Sync: error %d", e)
			}
			continue
		}
		r := sized(n)
		off, length, e := x.r.Append(r)
		if e != api.OK {
			x.t.Fatalf("Append: error %d", e)
		}
		x.put = append(x.put, api.Found{Off: off, Len: length, Record: r})
	}
}

// sectors returns the data sectors that were written.
func (x *life) sectors() [][]byte {
	var all [][]byte
	for i := range (59*(x.l.RegionSectors-1) - x.r.Room()) / 59 {
		h := x.r.Header()
		b, e := frame.Encode(api.FrameData, h.Seq, first(x.l, h.Slot)+1+i, x.r.Read(59*i, 59))
		all = append(all, must(x.t, b, e))
	}
	return all
}

// expect reports an error unless Region returns what was appended, up to the first sector that d does not have as it was written.
func (x *life) expect(what string, d *flashdev.Device) {
	x.t.Helper()
	h := x.r.Header()
	frames := 0
	for i, want := range x.sectors() {
		b, _ := d.Read(first(x.l, h.Slot) + 1 + i)
		if !bytes.Equal(b, want) {
			break
		}
		frames++
	}
	var want []api.Found
	for _, f := range x.put {
		if f.Off+f.Len <= 59*frames {
			want = append(want, f)
		}
	}
	expectRegion(x.t, what, d, x.l, h.Slot, h.Seq, want)
	expectStream(x.t, what, d, x.l, h.Slot, h.Seq, x.r.Read(0, 59*frames))
}

// TestRegionsThatWereWritten has what a region appended, at every moment: what is synchronized, and what fills a frame without that.
func TestRegionsThatWereWritten(t *testing.T) {
	for version := 1; version <= 2; version++ {
		l := layout(3, version, 32, 5)
		x := open(t, device(end(l)), l, of(l, 4, 70000))
		for _, n := range []int{30, 0, 40, 100, 59, 0, 0, 300, 16, 17, 42, 59, 0, 60, 400, 0, 59, 118, 0, 20, 0, 300, 0} {
			x.append(n)
			x.expect("at the moment", x.d)
			x.expect("after a crash", x.d.Crash(nil, nil))
			if n == 0 {
				expectRegion(t, "synchronized", x.d, l, 4, 70000, x.put)
				expectRegion(t, "synchronized, after a crash", x.d.Crash(nil, nil), l, 4, 70000, x.put)
			}
			expectHeader(t, "at the moment", x.d, l, of(l, 4, 70000))
			expectHeader(t, "after a crash", x.d.Crash(nil, nil), l, of(l, 4, 70000))
		}
	}
}

// TestTwoRecordsWithoutSync is the example of the document: a crash that keeps nothing loses both.
func TestTwoRecordsWithoutSync(t *testing.T) {
	l := layout(3, 1, 4, 4)
	x := open(t, flashdev.New(end(l)), l, of(l, 0, 7))
	x.append(20, 20)
	expectEmpty(t, "before the crash", x.d, l, 0, 7)
	x.append(40)
	expectRegion(t, "before the crash", x.d, l, 0, 7, x.put[:2])
	expectEmpty(t, "after the crash", x.d.Crash(nil, nil), l, 0, 7)
	expectHeader(t, "after the crash", x.d.Crash(nil, nil), l, of(l, 0, 7))
}

// TestCrashes has every way in which five dirty sectors are kept, lost and torn, over noise and over an earlier region of the slot.
func TestCrashes(t *testing.T) {
	for _, earlier := range []bool{false, true} {
		for version := 1; version <= 2; version++ {
			l := layout(3, version, 8, 4)
			d := flashdev.Load(noise(64*end(l), 3))
			old := open(t, d, l, of(l, 1, 9))
			if earlier {
				old.append(59, 30, 0, 60, 200, 0)
			}
			x := open(t, d, l, of(l, 1, 12))
			x.append(70, 0, 59, 100, 20, 86, 30) // two sectors are durable, and five are dirty
			if d.Dirty() != 5 {
				t.Fatalf("%d sectors are dirty", d.Dirty())
			}
			for _, n := range []int{1, 2, 30, 60, 61, 63} {
				for way := range 243 {
					keep, tears := make([]bool, 5), []api.Tear(nil)
					for k, rest := 0, way; k < 5; k, rest = k+1, rest/3 {
						keep[k] = rest%3 == 1
						if rest%3 == 2 {
							tears = append(tears, api.Tear{K: k, N: n})
						}
					}
					after := d.Crash(keep, tears)
					what := fmt.Sprint("after a crash that keeps ", keep, " and tears ", tears)
					x.expect(what, after)
					expectHeader(t, what, after, l, of(l, 1, 12))
					expectEmpty(t, what+": the earlier region", after, l, 1, 9)
				}
			}
		}
	}
}

// TestEarlierRegions reads the earlier region of a slot while the next one overwrites it: its first records are gone with the first sector that is overwritten, and come back with a crash that loses it.
func TestEarlierRegions(t *testing.T) {
	l := layout(3, 2, 8, 4)
	d := device(end(l))
	old := open(t, d, l, of(l, 1, 9))
	old.append(59, 30, 0, 60, 200, 0)
	x := open(t, d, l, of(l, 1, 12))
	old.expect("the next region is open", d)
	expectRegion(t, "the next region is open", d, l, 1, 9, old.put)
	x.append(70)
	expectEmpty(t, "the first sector is overwritten", d, l, 1, 9)
	expectRegion(t, "a crash loses it", d.Crash(nil, nil), l, 1, 9, old.put)
	x.append(59, 200)
	for _, lost := range []int{0, 1, 2, 3, 4} {
		keep := slices.Repeat([]bool{true}, 5)
		clear(keep[:lost])
		old.expect("a crash keeps later sectors", d.Crash(keep, nil))
		x.expect("a crash keeps later sectors", d.Crash(keep, nil))
	}
}

// TestHeadersThatAreTorn opens a region whose header does not become durable: the crash leaves it, the earlier one, or none.
func TestHeadersThatAreTorn(t *testing.T) {
	l := layout(3, 1, 4, 4)
	d := device(end(l))
	open(t, d, l, of(l, 2, 9))
	earlier, _ := d.Read(first(l, 2))
	d.Fuse(1)
	if _, e := region.Open(d, l, of(l, 2, 70000)); e != api.ErrDown {
		t.Fatalf("Open: error %d", e)
	}
	next, _ := d.Crash([]bool{true}, nil).Read(first(l, 2))
	none := 0
	for n := range 65 {
		after := d.Crash([]bool{n == 64}, []api.Tear{{K: 0, N: n}})
		switch b, _ := after.Read(first(l, 2)); {
		case bytes.Equal(b, earlier):
			expectHeader(t, "the earlier header is left", after, l, of(l, 2, 9))
		case bytes.Equal(b, next):
			expectHeader(t, "the new header is left", after, l, of(l, 2, 70000))
		default:
			expectNoHeader(t, "a torn header", after, l, 2)
			none++
		}
	}
	if none < 40 {
		t.Errorf("only %d of the headers are torn", none)
	}
}

// TestRegionsAreApart has regions in all slots of a device, with the same records.
func TestRegionsAreApart(t *testing.T) {
	for version := 1; version <= 2; version++ {
		l := layout(7, version, 8, 6)
		d := device(end(l))
		var all []*life
		for slot := range 6 {
			all = append(all, open(t, d, l, of(l, slot, 9+slot%3)))
		}
		for i := range 5 {
			for k, x := range all {
				x.append(20 + 17*((i+k)%4))
				if (i+k)%3 == 0 {
					x.append(0)
				}
			}
			for _, x := range all {
				x.expect("all slots", d)
				for slot := range 6 {
					if slot%3 != x.r.Header().Slot%3 {
						expectEmpty(t, "the seq of another slot", d, l, slot, x.r.Header().Seq)
					}
				}
			}
		}
	}
}

// TestCallsLeaveTheDeviceAlone makes calls of all kinds on devices of all kinds.
func TestCallsLeaveTheDeviceAlone(t *testing.T) {
	x := newDraft(t, 2)
	x.add(sized(20), sized(70), flush())
	for _, fuse := range []int{-1, 0, 3} {
		for _, isDead := range []bool{false, true} {
			d := x.device()
			writeHeader(t, d, of(x.l, x.slot, x.seq), first(x.l, x.slot))
			if isDead {
				kill(d)
			}
			d.Fuse(fuse)
			image, lost, writes, dirty := d.Image(), d.Crash(nil, nil).Image(), d.Writes(), d.Dirty()
			for slot := -1; slot <= x.l.Regions; slot++ {
				for _, seq := range []int{-1, 0, 1, x.seq, 1 << 48} {
					Header(d, x.l, slot)
					Region(d, x.l, slot, seq)
					for _, n := range []int{-1, 0, 1, 106, 107, 413, 414, math.MaxInt} {
						Bytes(d, x.l, slot, seq, 0, n)
						Bytes(d, x.l, slot, seq, n, 1)
					}
				}
			}
			if !bytes.Equal(d.Image(), image) || !bytes.Equal(d.Crash(nil, nil).Image(), lost) {
				t.Error("the device has other contents")
			}
			if d.Writes() != writes || d.Dirty() != dirty || d.Dead() != isDead {
				t.Errorf("%d Writes, %d sectors are dirty, dead: %v", d.Writes(), d.Dirty(), d.Dead())
			}
			want := 1000
			if fuse >= 0 {
				want = fuse
			}
			if got := left(d); !isDead && got != want {
				t.Errorf("the power lasts for %d calls, want %d", got, want)
			}
		}
	}
}

// TestResultsShareNoMemory overwrites the parts of results one by one.
func TestResultsShareNoMemory(t *testing.T) {
	for version := 1; version <= 2; version++ {
		x := newDraft(t, version)
		x.add(sized(21), flush(), sized(70), value("key", "value", 5), sized(40))
		d := x.device()
		image := d.Image()
		a, b := Region(d, x.l, x.slot, x.seq), Region(d, x.l, x.slot, x.seq)
		stream, _ := Bytes(d, x.l, x.slot, x.seq, 0, 177)
		part, _ := Bytes(d, x.l, x.slot, x.seq, 10, 100)
		none, _ := Bytes(d, x.l, x.slot, x.seq, 10, 0)
		for i := range a {
			key, val := bytes.Clone(a[i].Record.Key), bytes.Clone(a[i].Record.Value)
			spoil(a[i].Record.Key)
			if !bytes.Equal(a[i].Record.Value, val) {
				t.Error("a value shares memory with its key")
			}
			spoil(a[i].Record.Value)
			if !slices.EqualFunc(a[i+1:], x.put[i+1:], isSame) {
				t.Error("a record shares memory with a later one")
			}
			spoil(a[i].Record.Key)
			if !bytes.Equal(a[i].Record.Key, key) {
				t.Error("a key shares memory with its value")
			}
			spoil(a[i].Record.Value)
		}
		if !slices.EqualFunc(a, x.put, isSame) {
			t.Error("a record shares memory with an earlier one")
		}
		for i := range a {
			spoil(a[i].Record.Key)
			spoil(a[i].Record.Value)
		}
		clear(a[:cap(a)])
		if !slices.EqualFunc(b, x.put, isSame) || !bytes.Equal(stream[:len(x.stream)], x.stream) || !bytes.Equal(part, x.stream[10:110]) {
			t.Error("two results share memory")
		}
		spoil(part)
		spoil(none)
		if !bytes.Equal(stream[:len(x.stream)], x.stream) {
			t.Error("two results of Bytes share memory")
		}
		spoil(stream)
		if !slices.EqualFunc(b, x.put, isSame) || !bytes.Equal(d.Image(), image) {
			t.Error("a result of Bytes shares memory with one of Region, or with the device")
		}
		x.expectFrames("the results are overwritten", d, 3)
	}
}

// TestResultsStay has results that must not change with the device.
func TestResultsStay(t *testing.T) {
	x := newDraft(t, 1)
	x.add(sized(20), sized(70), flush())
	d := x.device()
	writeHeader(t, d, of(x.l, x.slot, x.seq), first(x.l, x.slot))
	h, _ := Header(d, x.l, x.slot)
	found := Region(d, x.l, x.slot, x.seq)
	stream, _ := Bytes(d, x.l, x.slot, x.seq, 0, 100)
	for i := range d.Sectors() {
		d.Write(i, noise(64, uint32(i)))
	}
	if h != of(x.l, x.slot, x.seq) || !slices.EqualFunc(found, x.put, isSame) || !bytes.Equal(stream, x.stream[:100]) {
		t.Error("a result changes with the device")
	}
	expectNoHeader(t, "overwritten", d, x.l, x.slot)
	expectEmpty(t, "overwritten", d, x.l, x.slot, x.seq)
}

// TestManyStreams has streams of records, zeros, noise and records of other places, without a visible pattern, of which some frames are spoiled.
func TestManyStreams(t *testing.T) {
	seed := uint32(1)
	next := func(n int) int {
		seed = seed*1664525 + 1013904223
		return int(seed>>16) % n
	}
	for range 3000 {
		l := layout(1+next(9), 1+next(2), 2<<next(6), 4+next(5))
		x := &draft{t: t, l: l, slot: next(l.Regions), seq: 1<<40 + 1 + next(1000)}
		capacity := 59 * (l.RegionSectors - 1)
		for len(x.stream)+200 <= capacity && next(60) > 0 {
			switch next(12) {
			case 0:
				x.raw(make([]byte, 1+next(130)))
			case 1, 2, 3:
				x.pad()
			case 4:
				x.raw([]byte{0})
				x.add(sized(16 + next(60)))
			case 5:
				b, e := record.Encode(1+next(2), x.seq+1, len(x.stream), sized(16+next(60)))
				x.raw(must(t, b, e)[:next(3)*next(9)])
			default:
				x.add(sized(16 + next(120)))
			}
		}
		d := device(end(l))
		x.writeTo(d)
		frames := x.frames()
		for i := next(4) * next(40); i < frames; i += 1 + next(10) {
			d.Write(x.sector(i), x.spoilers(i)[next(30)].b)
			frames = min(frames, i)
		}
		x.expectFrames("a stream", d, frames)
	}
}
