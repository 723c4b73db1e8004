package region

import (
	"bytes"
	"encoding/hex"
	"math"
	"slices"
	"testing"

	"flashcache/api"
	"flashcache/flashdev"
	"flashcache/frame"
	"flashcache/header"
	"flashcache/record"
)

// letters is a value of 104 bytes.
const letters = "abcdefghijklmnopqrstuvwxyzabcdefghijklmnopqrstuvwxyzabcdefghijklmnopqrstuvwxyzabcdefghijklmnopqrstuvwxyz"

// known has regions, and the sectors that another program made of the header and of these records, with a Sync before the last one and another one at the end.
var known = []struct {
	l       api.Layout
	h       api.Header
	records []api.Record
	offs    []int
	lengths []int
	first   int
	sectors []string // from the first one on
}{
	{
		layout(3, 1, 4, 6), api.Header{Version: 1, Slot: 1, Layout: 3, Seq: 258, Tail: 2, Now: 5},
		[]api.Record{value("key", "value", 5), tombstone("k"), flush(), value("last", letters[:98], 0)},
		[]int{0, 24, 41, 59}, []int{24, 17, 16, 118},
		78,
		[]string{
			"010101000000030000000001020000000000020000000005000000000000000000000000000000000000000000000000000000000000000000000000d8405b17",
			"02a10103000000000500000005f3aa32716b657976616c7565a10201000000000000000000600bc6b56ba10300000000000000000000f7c82b7d00000f86bfb9",
			"02a1010400000000620000000006d9cbc46c6173746162636465666768696a6b6c6d6e6f707172737475767778797a6162636465666768696a6b6c6d8fca1643",
			"026e6f707172737475767778797a6162636465666768696a6b6c6d6e6f707172737475767778797a6162636465666768696a6b6c6d6e6f70717273744d036e09",
		},
	},
	{
		layout(1<<32-1, 2, 2048, 16), api.Header{Version: 2, Slot: 15, Layout: 1<<32 - 1, Seq: 1<<48 - 1, Tail: 1<<48 - 2, Now: 1 << 39},
		[]api.Record{value("key", "value", 1<<40-1), tombstone("k"), flush(), value("last", letters, 0)},
		[]int{0, 24, 41, 59}, []int{24, 17, 16, 124},
		30794,
		[]string{
			"01020ffffffffffffffffffffffffffffffffe8000000000000000000000000000000000000000000000000000000000000000000000000000000000f195274d",
			"02a2031000000500ffffffffffdf782fe36b657976616c7565a201200000000000000000000c1f019a6ba200300000000000000000005e41d11900002ccf898e",
			"02a20410000068000000000000f279105c6c6173746162636465666768696a6b6c6d6e6f707172737475767778797a6162636465666768696a6b6c6d6b9af3d3",
			"026e6f707172737475767778797a6162636465666768696a6b6c6d6e6f707172737475767778797a6162636465666768696a6b6c6d6e6f7071727374fa7acc25",
			"0275767778797a0000000000000000000000000000000000000000000000000000000000000000000000000000000000000000000000000000000000b5bc0ba6",
		},
	},
}

// huge are numbers far away from those of slots, sequence numbers and places in a stream.
var huge = []int{math.MinInt, math.MinInt + 1, -1 << 62, -1 << 48, -1 << 32, 1 << 62, math.MaxInt - 177, math.MaxInt - 1, math.MaxInt}

func layout(id, version, sectors, regions int) api.Layout {
	return api.Layout{ID: id, Version: version, RegionSectors: sectors, Regions: regions}
}

// layouts returns layouts of both versions and of all sizes and numbers of regions.
func layouts() []api.Layout {
	ids := []int{1, 2, 255, 256, 65536, 1 << 31, 1<<32 - 1}
	var all []api.Layout
	for i := range 11 {
		for regions := 4; regions <= 16; regions++ {
			all = append(all, layout(ids[(i+regions)%7], 1+(i+regions)%2, 2<<i, regions))
		}
	}
	return all
}

// noLayouts returns layouts that are not well-formed, each like l but for one number.
func noLayouts(l api.Layout) []api.Layout {
	var all []api.Layout
	for _, n := range slices.Concat(huge, []int{-1, 0}) {
		all = append(all, layout(n, l.Version, l.RegionSectors, l.Regions), layout(l.ID, n, l.RegionSectors, l.Regions),
			layout(l.ID, l.Version, n, l.Regions), layout(l.ID, l.Version, l.RegionSectors, n))
	}
	all = append(all, layout(1<<32, l.Version, l.RegionSectors, l.Regions), layout(1<<32+l.ID, l.Version, l.RegionSectors, l.Regions))
	all = append(all, layout(l.ID, 3, l.RegionSectors, l.Regions), layout(l.ID, 256+l.Version, l.RegionSectors, l.Regions))
	for _, n := range []int{1, 3, 5, 6, 2047, 2049, 4096} {
		all = append(all, layout(l.ID, l.Version, n, l.Regions))
	}
	for _, n := range []int{1, 3, 17, 256 + l.Regions} {
		all = append(all, layout(l.ID, l.Version, l.RegionSectors, n))
	}
	return all
}

// of returns a header for a slot of l.
func of(l api.Layout, slot, seq int) api.Header {
	return api.Header{Version: l.Version, Slot: slot, Layout: l.ID, Seq: seq, Tail: seq / 2, Now: 1000}
}

// noHeaders returns headers that are not valid, each like h but for one number.
func noHeaders(h api.Header) []api.Header {
	var all []api.Header
	with := func(numbers []int, set func(h *api.Header, n int)) {
		for _, n := range numbers {
			x := h
			set(&x, n)
			all = append(all, x)
		}
	}
	with(slices.Concat(huge, []int{-1, 0, 3, 256 + h.Version}), func(h *api.Header, n int) { h.Version = n })
	with(slices.Concat(huge, []int{-2, -1, 16, 17, 256 + h.Slot}), func(h *api.Header, n int) { h.Slot = n })
	with(slices.Concat(huge, []int{-1, 0, 1 << 32, 1<<32 + h.Layout}), func(h *api.Header, n int) { h.Layout = n })
	with(slices.Concat(huge, []int{-1, 0, h.Tail - 1, 1 << 48, 1<<48 + 1}), func(h *api.Header, n int) { h.Seq = n })
	with(slices.Concat(huge, []int{-1, h.Seq + 1, 1 << 48}), func(h *api.Header, n int) { h.Tail = n })
	with(slices.Concat(huge, []int{-1, 1<<39 + 1, 1 << 40}), func(h *api.Header, n int) { h.Now = n })
	return all
}

func value(key, value string, expiry int) api.Record {
	return api.Record{Kind: api.KindValue, Key: []byte(key), Value: []byte(value), Expiry: expiry}
}

func tombstone(key string) api.Record {
	return api.Record{Kind: api.KindTombstone, Key: []byte(key)}
}

func flush() api.Record {
	return api.Record{Kind: api.KindFlush}
}

// sized returns a record of n bytes: a flush of 16 bytes, tombstones and values of more.
func sized(n int) api.Record {
	switch {
	case n == 16:
		return flush()
	case n <= 16+255 && n%2 == 0:
		return tombstone(string(noise(n-16, uint32(n))))
	}
	return value("k", string(noise(n-17, uint32(n))), n)
}

// most returns the greatest expiry of a format.
func most(version int) int {
	if version == 1 {
		return 1<<32 - 1
	}
	return 1<<40 - 1
}

// refused is a record and the error of Append of it.
type refused struct {
	r api.Record
	e api.Errno
}

// bad returns records that a format refuses, or a region of less than 65,536 bytes. Many of them have further defects, of which the error comes later.
func bad(version int) []refused {
	key, val := make([]byte, 256), make([]byte, 65537)
	return []refused{
		{api.Record{}, api.ErrForm},
		{api.Record{Kind: -1}, api.ErrForm},
		{api.Record{Kind: 4, Key: []byte("k")}, api.ErrForm},
		{api.Record{Kind: math.MinInt, Key: key, Value: val, Expiry: -1}, api.ErrForm},
		{api.Record{Kind: api.KindTombstone, Key: []byte("k"), Value: []byte("v")}, api.ErrForm},
		{api.Record{Kind: api.KindTombstone, Key: key, Expiry: 1}, api.ErrForm},
		{api.Record{Kind: api.KindFlush, Key: []byte("k")}, api.ErrForm},
		{api.Record{Kind: api.KindFlush, Value: val}, api.ErrForm},
		{api.Record{Kind: api.KindFlush, Expiry: math.MinInt}, api.ErrForm},
		{api.Record{Kind: api.KindValue}, api.ErrKey},
		{api.Record{Kind: api.KindTombstone}, api.ErrKey},
		{api.Record{Kind: api.KindTombstone, Key: key}, api.ErrKey},
		{api.Record{Kind: api.KindValue, Key: key, Value: val, Expiry: -1}, api.ErrKey},
		{api.Record{Kind: api.KindValue, Value: val, Expiry: most(version) + 1}, api.ErrKey},
		{api.Record{Kind: api.KindValue, Key: key[:255], Value: val}, api.ErrValue},
		{api.Record{Kind: api.KindValue, Key: []byte("k"), Value: val, Expiry: -1}, api.ErrValue},
		{value("k", "v", -1), api.ErrExpiry},
		{value("k", "v", most(version)+1), api.ErrExpiry},
		{api.Record{Kind: api.KindValue, Key: []byte("k"), Value: val[:65536], Expiry: math.MaxInt}, api.ErrExpiry},
		{api.Record{Kind: api.KindValue, Key: []byte("k"), Value: val[:65536], Expiry: most(version)}, api.ErrFit},
		{value("k", string(make([]byte, 65536-17)), 0), api.ErrFit},
	}
}

// noise returns n bytes without a visible pattern, the same ones each time.
func noise(n int, seed uint32) []byte {
	b := make([]byte, n)
	for i := range b {
		seed = seed*1664525 + 1013904223
		b[i] = byte(seed >> 24)
	}
	return b
}

// spoil overwrites b and its spare capacity.
func spoil(b []byte) {
	b = b[:cap(b)]
	for i := range b {
		b[i] ^= 0xFF
	}
}

// brief shortens what an error message shows of b.
func brief(b []byte) string {
	if len(b) <= 64 {
		return hex.EncodeToString(b)
	}
	return hex.EncodeToString(b[:64]) + ".."
}

// end returns how many sectors a device needs for all slots of l.
func end(l api.Layout) int {
	return 74 + l.Regions*l.RegionSectors
}

// first returns the first sector of a slot.
func first(l api.Layout, slot int) int {
	return 74 + slot*l.RegionSectors
}

// device returns a device whose sectors are noise, and one of which is dirty.
func device(sectors int) *flashdev.Device {
	d := flashdev.Load(noise(64*sectors, 1))
	d.Write(0, []byte("dirty"))
	return d
}

// dead returns a device on which nothing works any more.
func dead(sectors int) *flashdev.Device {
	d := device(sectors)
	d.Fuse(0)
	d.Barrier()
	return d
}

// left returns how many calls the power of d lasts for, up to 1000, and uses them up.
func left(d *flashdev.Device) int {
	n := 0
	for n < 1000 && d.Barrier() == api.OK {
		n++
	}
	return n
}

// expectSame reports an error unless a device has what another one has.
func expectSame(t *testing.T, what string, got, want *flashdev.Device) {
	t.Helper()
	if got.Writes() != want.Writes() || got.Dirty() != want.Dirty() || got.Dead() != want.Dead() {
		t.Errorf("after %s: %d Writes, %d sectors are dirty, dead: %v, want %d, %d, %v",
			what, got.Writes(), got.Dirty(), got.Dead(), want.Writes(), want.Dirty(), want.Dead())
	}
	if !bytes.Equal(got.Image(), want.Image()) {
		t.Errorf("after %s: the device has other contents", what)
	}
	if !bytes.Equal(got.Crash(nil, nil).Image(), want.Crash(nil, nil).Image()) {
		t.Errorf("after %s: the device has other contents when its power fails", what)
	}
}

// twin is a region on a device and, beside it, what the chapter says of it, with a device on which it was done step by step.
type twin struct {
	t      *testing.T
	r      *Region
	d      *flashdev.Device
	model  *flashdev.Device
	l      api.Layout
	h      api.Header
	stream []byte
	taken  int // how many frames were written, or could not be
}

// openTwin opens a region on a device with that many sectors and that fuse, and reports an error unless Open does what the chapter says. Its region is nil if there is none.
func openTwin(t *testing.T, sectors, fuse int, l api.Layout, h api.Header) *twin {
	t.Helper()
	x := &twin{t: t, d: device(sectors), model: device(sectors), l: l, h: h}
	x.d.Fuse(fuse)
	x.model.Fuse(fuse)
	x.reopen(h)
	return x
}

// reopen opens another region on the device of the twin.
func (x *twin) reopen(h api.Header) {
	x.t.Helper()
	x.h, x.stream, x.taken = h, nil, 0
	sector := first(x.l, h.Slot)
	b, want := header.Encode(h, sector)
	if want != api.OK {
		x.t.Fatalf("no frame of %+v: error %d", h, want)
	}
	if want = x.model.Write(sector, b); want == api.OK {
		want = x.model.Barrier()
	}
	r, e := Open(x.d, x.l, h)
	if e != want || (r != nil) != (want == api.OK) {
		x.t.Fatalf("Open(%+v, %+v) = %v, error %d, want %d", x.l, h, r, e, want)
	}
	x.r = r
	expectSame(x.t, "Open", x.d, x.model)
	if r != nil {
		x.look("Open")
	}
}

// newTwin opens a region on a device that works.
func newTwin(t *testing.T, l api.Layout, slot, seq int) *twin {
	t.Helper()
	return openTwin(t, end(l), -1, l, of(l, slot, seq))
}

func (x *twin) capacity() int {
	return 59 * (x.l.RegionSectors - 1)
}

// look reports an error unless Header, Room and Read are those of the region.
func (x *twin) look(what string) {
	x.t.Helper()
	if got := x.r.Header(); got != x.h {
		x.t.Errorf("after %s: the header is %+v, want %+v", what, got, x.h)
	}
	if got, want := x.r.Room(), x.capacity()-len(x.stream); got != want {
		x.t.Errorf("after %s: Room %d, want %d", what, got, want)
	}
	if got := x.r.Read(0, len(x.stream)); !bytes.Equal(got, x.stream) || x.r.Read(0, len(x.stream)+1) != nil {
		x.t.Errorf("after %s: the stream is %s, want %s", what, brief(got), brief(x.stream))
	}
}

// write writes to the model what is full, up to the first error.
func (x *twin) write() api.Errno {
	e := api.OK
	for ; x.taken < len(x.stream)/59; x.taken++ {
		sector := first(x.l, x.h.Slot) + 1 + x.taken
		b, bad := frame.Encode(api.FrameData, x.h.Seq, sector, x.stream[59*x.taken:59*x.taken+59])
		if bad != api.OK {
			x.t.Fatalf("no frame for the sector %d: error %d", sector, bad)
		}
		if e == api.OK {
			e = x.model.Write(sector, b)
		}
	}
	return e
}

// add appends r as the chapter says.
func (x *twin) add(r api.Record) (off, n int, e api.Errno) {
	b, e := record.Encode(x.l.Version, x.h.Seq, len(x.stream), r)
	if e != api.OK {
		return 0, 0, e
	}
	off = len(x.stream)
	if off+len(b) > x.capacity() {
		return 0, 0, api.ErrFit
	}
	x.stream = append(x.stream, b...)
	if e := x.write(); e != api.OK {
		return 0, 0, e
	}
	return off, len(b), api.OK
}

// tryAppend reports an error unless Append does what the chapter says, and returns its error.
func (x *twin) tryAppend(r api.Record) api.Errno {
	x.t.Helper()
	wantOff, wantN, want := x.add(r)
	if off, n, e := x.r.Append(r); off != wantOff || n != wantN || e != want {
		x.t.Errorf("Append of Kind %d, key of %d, value of %d = %d, %d, error %d, want %d, %d, error %d",
			r.Kind, len(r.Key), len(r.Value), off, n, e, wantOff, wantN, want)
	}
	x.look("Append")
	expectSame(x.t, "Append", x.d, x.model)
	return want
}

// trySync reports an error unless Sync does what the chapter says, and returns its error.
func (x *twin) trySync() api.Errno {
	x.t.Helper()
	for len(x.stream)%59 != 0 {
		x.stream = append(x.stream, 0)
	}
	want := x.write()
	if want == api.OK {
		want = x.model.Barrier()
	}
	if e := x.r.Sync(); e != want {
		x.t.Errorf("Sync: error %d, want %d", e, want)
	}
	x.look("Sync")
	expectSame(x.t, "Sync", x.d, x.model)
	return want
}

// append appends r, and reports an error unless this has that error and that many Writes.
func (x *twin) append(r api.Record, want api.Errno, writes int) {
	x.t.Helper()
	before := x.d.Writes()
	if e := x.tryAppend(r); e != want || x.d.Writes() != before+writes {
		x.t.Errorf("Append of %d bytes: error %d and %d Writes, want %d and %d", record.Length(r), e, x.d.Writes()-before, want, writes)
	}
}

// sync makes another sector dirty, and reports an error unless Sync makes everything durable with that many Writes.
func (x *twin) sync(writes int) {
	x.t.Helper()
	x.d.Write(1, []byte("dirty"))
	x.model.Write(1, []byte("dirty"))
	before := x.d.Writes()
	if e := x.trySync(); e != api.OK || x.d.Writes() != before+writes || x.d.Dirty() != 0 {
		x.t.Errorf("Sync: error %d and %d Writes, want %d; %d sectors are dirty", e, x.d.Writes()-before, writes, x.d.Dirty())
	}
}

// found returns the stream that the data sectors of the slot of x have on d, up to the first one without a frame.
func (x *twin) found(d *flashdev.Device) []byte {
	var stream []byte
	for i := 1; i < x.l.RegionSectors; i++ {
		sector := first(x.l, x.h.Slot) + i
		b, _ := d.Read(sector)
		payload, ok := frame.Decode(api.FrameData, x.h.Seq, sector, b)
		if !ok {
			break
		}
		stream = append(stream, payload...)
	}
	return stream
}

func TestExampleOfTheChapter(t *testing.T) {
	d := flashdev.New(100)
	h := api.Header{Version: 1, Slot: 1, Layout: 3, Seq: 7, Tail: 2}
	r, e := Open(d, layout(3, 1, 4, 4), h)
	if e != api.OK {
		t.Fatalf("Open: error %d", e)
	}
	if off, n, e := r.Append(tombstone("k")); off != 0 || n != 17 || e != api.OK {
		t.Errorf("Append = %d, %d, error %d", off, n, e)
	}
	b, _ := d.Read(78)
	if got, ok := header.Decode(b, 78); !ok || got != h {
		t.Errorf("the header is %+v, %v", got, ok)
	}
	if b, _ := d.Read(79); !bytes.Equal(b, make([]byte, 64)) || d.Writes() != 1 {
		t.Errorf("%d Writes, and the sector of the data is %s", d.Writes(), brief(b))
	}
	if e := r.Sync(); e != api.OK || d.Writes() != 2 {
		t.Errorf("Sync: error %d, %d Writes", e, d.Writes())
	}
	b, _ = d.Read(79)
	if payload, ok := frame.Decode(api.FrameData, 7, 79, b); !ok || !bytes.Equal(payload[:17], r.Read(0, 17)) {
		t.Errorf("the sector of the data is %s", brief(b))
	}
}

// TestTwoRecordsWithoutSync is the example of the document: a crash that keeps nothing loses both.
func TestTwoRecordsWithoutSync(t *testing.T) {
	x := newTwin(t, layout(3, 1, 4, 4), 0, 7)
	x.append(sized(40), api.OK, 0)
	x.append(sized(40), api.OK, 1)
	if got := x.found(x.d.Crash(nil, nil)); len(got) != 0 {
		t.Errorf("the data after a crash is %s", brief(got))
	}
}

func TestKnownSectors(t *testing.T) {
	for _, x := range known {
		d := flashdev.New(end(x.l))
		r, e := Open(d, x.l, x.h)
		if e != api.OK {
			t.Fatalf("Open(%+v, %+v): error %d", x.l, x.h, e)
		}
		for i, record := range x.records {
			if off, n, e := r.Append(record); off != x.offs[i] || n != x.lengths[i] || e != api.OK {
				t.Errorf("Append of the record %d = %d, %d, error %d", i, off, n, e)
			}
			if i >= 2 && r.Sync() != api.OK {
				t.Error("Sync has an error")
			}
		}
		want := make([]byte, 64*end(x.l))
		for i, s := range x.sectors {
			b, err := hex.DecodeString(s)
			if err != nil || copy(want[64*(x.first+i):], b) != 64 {
				t.Fatalf("the sector %d has %d bytes, %v", i, len(b), err)
			}
		}
		if !bytes.Equal(d.Crash(nil, nil).Image(), want) || d.Writes() != len(x.sectors) || d.Dirty() != 0 {
			t.Errorf("the region %d has other sectors, %d Writes, and %d sectors are dirty", x.h.Seq, d.Writes(), d.Dirty())
		}
	}
}

func TestOpenOfAllLayouts(t *testing.T) {
	for i, l := range layouts() {
		for _, slot := range []int{0, 1, l.Regions - 1} {
			x := openTwin(t, end(l), 1000, l, of(l, slot, 1+i))
			if got := left(x.d); got != 998 {
				t.Errorf("Open makes %d calls of the device, want 2", 1000-got)
			}
		}
	}
}

func TestOpenOfAllSlots(t *testing.T) {
	for _, n := range []int{2, 8, 64} {
		for regions := 4; regions <= 16; regions++ {
			for slot := range regions {
				newTwin(t, layout(9, 1+slot%2, n, regions), slot, 70000)
			}
		}
	}
}

func TestOpenOfAllHeaders(t *testing.T) {
	for version := 1; version <= 2; version++ {
		for _, id := range []int{1, 255, 256, 1<<32 - 1} {
			l := layout(id, version, 4, 5)
			for _, seq := range []int{1, 2, 255, 256, 1<<32 + 1, 1<<48 - 2, 1<<48 - 1} {
				for _, tail := range []int{0, 1, seq / 2, seq - 1, seq} {
					for _, now := range []int{0, 1, 1 << 32, 1<<39 - 1, 1 << 39} {
						openTwin(t, end(l), -1, l, api.Header{Version: version, Slot: seq % 5, Layout: id, Seq: seq, Tail: tail, Now: now})
					}
				}
			}
		}
	}
}

// expectNoRegion reports an error unless Open returns that error, and no region, and leaves the device alone.
func expectNoRegion(t *testing.T, what string, d *flashdev.Device, l api.Layout, h api.Header, want api.Errno) {
	t.Helper()
	var image []byte
	if d.Sectors() < 200 {
		image = d.Image()
	}
	writes, dirty, isDead := d.Writes(), d.Dirty(), d.Dead()
	if r, e := Open(d, l, h); r != nil || e != want {
		t.Errorf("%s: Open(%+v, %+v) = %v, error %d, want %d", what, l, h, r, e, want)
	}
	if image != nil && !bytes.Equal(d.Image(), image) || d.Writes() != writes || d.Dirty() != dirty || d.Dead() != isDead {
		t.Errorf("%s: Open(%+v, %+v) has an effect", what, l, h)
	}
}

// expectRefused reports an error unless Open returns that error, whichever device it is. That without power left must not die.
func expectRefused(t *testing.T, l api.Layout, h api.Header, want api.Errno) {
	t.Helper()
	d := device(150)
	expectNoRegion(t, "a device that works", d, l, h, want)
	d.Fuse(0)
	expectNoRegion(t, "without power left", d, l, h, want)
	expectNoRegion(t, "a small device", device(1), l, h, want)
	expectNoRegion(t, "a dead device", dead(150), l, h, want)
	expectNoRegion(t, "a zero device", new(flashdev.Device), l, h, want)
	expectNoRegion(t, "nil", nil, l, h, want)
}

// someLayouts are layouts for the errors of Open.
var someLayouts = []api.Layout{
	{ID: 3, Version: 1, RegionSectors: 4, Regions: 4},
	{ID: 1, Version: 2, RegionSectors: 2, Regions: 16},
	{ID: 1<<32 - 1, Version: 1, RegionSectors: 2048, Regions: 9},
}

// TestOpenWithoutAWellFormedLayout has headers that suit the layout otherwise.
func TestOpenWithoutAWellFormedLayout(t *testing.T) {
	expectRefused(t, api.Layout{}, api.Header{}, api.ErrForm)
	expectRefused(t, api.Layout{}, of(someLayouts[0], 0, 9), api.ErrForm)
	for _, l := range someLayouts {
		for _, none := range noLayouts(l) {
			for _, slot := range []int{0, 15, -1, 16} {
				expectRefused(t, none, of(none, slot, 9), api.ErrForm)
				expectRefused(t, none, of(l, slot, 9), api.ErrForm)
			}
		}
	}
}

// TestOpenWithoutAValidHeader has headers with one number out of its range, and layouts with that number, where there is one.
func TestOpenWithoutAValidHeader(t *testing.T) {
	for _, l := range someLayouts {
		expectRefused(t, l, api.Header{}, api.ErrForm)
		for _, slot := range []int{0, 3, l.Regions - 1, min(15, l.Regions)} {
			for _, none := range noHeaders(of(l, slot, 9)) {
				expectRefused(t, l, none, api.ErrForm)
				expectRefused(t, layout(none.Layout, none.Version, l.RegionSectors, l.Regions), none, api.ErrForm)
			}
		}
	}
}

// TestOpenWithTheHeaderOfAnotherLayout has valid headers, with slots that the layout has and does not have.
func TestOpenWithTheHeaderOfAnotherLayout(t *testing.T) {
	for _, l := range someLayouts {
		for slot := range 16 {
			h := of(l, slot, 9)
			h.Version = 3 - l.Version
			expectRefused(t, l, h, api.ErrForm)
			for _, id := range []int{1, 2, 3, 4, 256, 1 << 31, 1<<32 - 2, 1<<32 - 1} {
				if id != l.ID {
					h := of(l, slot, 9)
					h.Layout = id
					expectRefused(t, l, h, api.ErrForm)
					h.Version = 3 - l.Version
					expectRefused(t, l, h, api.ErrForm)
				}
			}
		}
	}
}

// TestOpenOfSlots has slots at and beside 0 and the number of regions: some that no layout has make the header invalid.
func TestOpenOfSlots(t *testing.T) {
	for _, n := range []int{2, 4} {
		for regions := 4; regions <= 16; regions++ {
			l := layout(3, 2, n, regions)
			for _, slot := range slices.Concat(huge, []int{-regions, -2, -1, 16, 17, 256}) {
				expectRefused(t, l, of(l, slot, 9), api.ErrForm)
			}
			for _, slot := range []int{0, 1, regions - 1} {
				newTwin(t, l, slot, 9)
			}
			for slot := regions; slot < 16; slot++ {
				expectRefused(t, l, of(l, slot, 9), api.ErrRange)
			}
		}
	}
}

// TestOpenOnDevicesThatFail has devices that are dead or nil, or that lack the sector of the header.
func TestOpenOnDevicesThatFail(t *testing.T) {
	for _, l := range someLayouts {
		for _, slot := range []int{0, 1, 3} {
			h := of(l, slot, 9)
			expectNoRegion(t, "nil", nil, l, h, api.ErrDown)
			expectNoRegion(t, "a dead device", dead(end(l)), l, h, api.ErrDown)
			expectNoRegion(t, "a dead device, and a small one", dead(1), l, h, api.ErrDown)
			expectNoRegion(t, "a zero device", new(flashdev.Device), l, h, api.ErrRange)
			for _, sectors := range []int{1, 74, first(l, slot)} {
				d := device(min(sectors, first(l, slot)))
				expectNoRegion(t, "a small device", d, l, h, api.ErrRange)
				d.Fuse(0)
				expectNoRegion(t, "a small device, without power left", d, l, h, api.ErrRange)
			}
			openTwin(t, first(l, slot)+1, -1, l, h) // the sectors of the data are not needed yet
		}
	}
}

// TestOpenWithFuses has no power for the Write, none for the Barrier, or enough for both.
func TestOpenWithFuses(t *testing.T) {
	for _, l := range someLayouts {
		for fuse := range 5 {
			x := openTwin(t, end(l), fuse, l, of(l, 2, 9))
			want := []bool{false, false, true, true, true}[fuse]
			if (x.r != nil) != want || x.d.Dead() == want || x.d.Writes() != 1+min(1, fuse) || (x.d.Dirty() == 0) != want {
				t.Errorf("the fuse %d: a region: %v, dead: %v, %d Writes, %d sectors are dirty", fuse, x.r != nil, x.d.Dead(), x.d.Writes(), x.d.Dirty())
			}
			if got := left(x.d); got != max(0, fuse-2) {
				t.Errorf("the fuse %d: %d of it are left", fuse, got)
			}
		}
	}
}

func TestAppendOfAllKinds(t *testing.T) {
	for version := 1; version <= 2; version++ {
		x := newTwin(t, layout(7, version, 2048, 4), 2, 1<<48-1)
		off := 0
		for _, r := range []struct {
			r api.Record
			n int
		}{
			{flush(), 16}, {api.Record{Kind: api.KindFlush, Key: []byte{}, Value: []byte{}}, 16}, {flush(), 16},
			{tombstone("k"), 17}, {tombstone("\x00"), 17}, {tombstone(string(noise(255, 1))), 271}, {tombstone("k"), 17},
			{value("k", "", 0), 17}, {value("k", "v", 1), 18}, {value("k", "v", 1), 18}, {value("key", "value", most(version)), 24},
			{value("\x00", "\x00\x00", 0), 19}, {value(string(noise(255, 2)), string(noise(65536, 3)), most(version)-1), 65807},
			{value("k", string(noise(1000, 4)), 0), 1017}, {flush(), 16},
		} {
			if gotOff, n, e := x.r.Append(r.r); gotOff != off || n != r.n || e != api.OK {
				t.Errorf("Append of Kind %d = %d, %d, error %d, want %d, %d", r.r.Kind, gotOff, n, e, off, r.n)
			}
			if got, _, ok := record.Decode(version, 1<<48-1, off, x.r.Read(off, r.n)); !ok || got.Kind != r.r.Kind || !bytes.Equal(got.Key, r.r.Key) || !bytes.Equal(got.Value, r.r.Value) || got.Expiry != r.r.Expiry {
				t.Errorf("the record at %d has another Kind, key, value or Expiry", off)
			}
			off += r.n
			x.add(r.r)
			x.look("Append")
		}
		expectSame(t, "records of all kinds", x.d, x.model)
		x.sync(1)
	}
}

// TestErrorsOfAppend has each error on regions with much, little and no room, before and after Sync, without power left: nothing is written.
func TestErrorsOfAppend(t *testing.T) {
	for version := 1; version <= 2; version++ {
		for _, n := range []int{2, 4, 1024} {
			x := newTwin(t, layout(7, version, n, 4), 3, 9)
			refuse := func() {
				t.Helper()
				x.d.Fuse(0)
				x.model.Fuse(0)
				for _, b := range bad(version) {
					x.append(b.r, b.e, 0)
				}
				x.append(sized(max(16, x.r.Room()+1)), api.ErrFit, 0)
				x.d.Fuse(-1)
				x.model.Fuse(-1)
			}
			refuse()
			x.append(sized(x.capacity()-20), api.OK, n-2)
			refuse()
			x.append(sized(17), api.OK, 0)
			x.append(sized(17), api.ErrFit, 0)
			refuse()
			x.sync(1)
			refuse()
			x.append(flush(), api.ErrFit, 0)
		}
	}
}

// TestErrorsOfAppendOnADeadDevice has the errors of records before that of the device, which only a record that fills a frame meets.
func TestErrorsOfAppendOnADeadDevice(t *testing.T) {
	for version := 1; version <= 2; version++ {
		x := openTwin(t, 100, 2, layout(7, version, 4, 4), of(layout(7, version, 4, 4), 3, 9))
		for range 2 {
			for _, b := range bad(version) {
				x.append(b.r, b.e, 0)
			}
			x.append(sized(178), api.ErrFit, 0)
			if x.d.Dead() {
				t.Error("a refused record is written")
			}
		}
		x.append(sized(58), api.OK, 0)
		x.append(sized(16), api.ErrDown, 0)
		for _, b := range bad(version) {
			x.append(b.r, b.e, 0)
		}
		x.append(sized(104), api.ErrFit, 0)
		x.append(sized(103), api.ErrDown, 0)
		x.append(flush(), api.ErrFit, 0)
	}
}

// TestErrorsLeaveNoTrace compares a region that refused records with one that was never asked.
func TestErrorsLeaveNoTrace(t *testing.T) {
	for version := 1; version <= 2; version++ {
		x, y := newTwin(t, layout(7, version, 8, 4), 1, 9), newTwin(t, layout(7, version, 8, 4), 1, 9)
		for i := range 3 {
			for _, b := range bad(version) {
				x.append(b.r, b.e, 0)
			}
			x.append(sized(414), api.ErrFit, 0)
			for _, z := range []*twin{x, y} {
				if e := z.tryAppend(sized(100 + i)); e != api.OK {
					t.Errorf("Append: error %d", e)
				}
			}
			expectSame(t, "refused records", x.d, y.d)
		}
		x.sync(1)
		y.sync(1)
		expectSame(t, "refused records, and Sync", x.d, y.d)
	}
}

// TestRecordsThatEndAtAFrame has records that end one byte before, at, and one byte behind the end of a frame, which is written as soon as it is full.
func TestRecordsThatEndAtAFrame(t *testing.T) {
	for version := 1; version <= 2; version++ {
		for _, frames := range []int{1, 2, 5} {
			for _, before := range []int{0, 16, 17, 30} {
				for _, past := range []int{-1, 0, 1} {
					x := newTwin(t, layout(7, version, 8, 4), 2, 300)
					if before > 0 {
						x.append(sized(before), api.OK, 0)
					}
					written := frames
					if past < 0 {
						written--
					}
					x.append(sized(59*frames-before+past), api.OK, written)
					x.append(sized(40), api.OK, (59*frames+past+40)/59-written)
					x.sync(1)
				}
			}
		}
	}
}

// TestFramesAreWrittenInOrder has a record that fills several frames: as long as the power lasts, they are written from the first one on.
func TestFramesAreWrittenInOrder(t *testing.T) {
	for version := 1; version <= 2; version++ {
		l := layout(7, version, 16, 4)
		for fuse := range 16 {
			x := openTwin(t, end(l), -1, l, of(l, 1, 9))
			x.append(sized(40), api.OK, 0)
			x.d.Fuse(fuse)
			x.model.Fuse(fuse)
			want := api.OK
			if fuse < 12 {
				want = api.ErrDown
			}
			x.append(sized(59*12), want, min(fuse, 12))
			survivors := x.d.Crash(slices.Repeat([]bool{true}, 16), nil)
			if got := x.found(survivors); !bytes.Equal(got, x.stream[:59*min(fuse, 12)]) {
				t.Errorf("the fuse %d: %d bytes are on the device", fuse, len(got))
			}
		}
	}
}

// TestNoSectorIsWrittenTwice changes the sectors behind the region's back: none of them is written again, neither the header's nor those of the data.
func TestNoSectorIsWrittenTwice(t *testing.T) {
	l := layout(7, 1, 8, 4)
	x := newTwin(t, l, 2, 9)
	change := func() {
		t.Helper()
		for i := range 1 + x.taken {
			for _, d := range []*flashdev.Device{x.d, x.model} {
				d.Write(first(l, 2)+i, []byte{byte(i)})
			}
		}
	}
	change()
	x.append(sized(20), api.OK, 0)
	x.append(sized(150), api.OK, 2)
	change()
	x.append(sized(20), api.OK, 1)
	change()
	x.sync(1)
	change()
	x.sync(0)
	x.append(sized(59), api.OK, 1)
	change()
	x.sync(0)
	x.append(flush(), api.OK, 0)
	x.sync(1)
	x.append(sized(59), api.OK, 1)
	change()
	x.append(sized(16), api.ErrFit, 0)
	x.sync(0)
	for i := range 8 {
		if b, _ := x.d.Read(first(l, 2) + i); !bytes.Equal(b, append([]byte{byte(i)}, make([]byte, 63)...)) {
			t.Errorf("the sector %d of the region was written again: %s", i, brief(b))
		}
	}
}

// TestNumberOfWrites is one, plus the number of full frames, after every call, whatever there is a Sync between the records.
func TestNumberOfWrites(t *testing.T) {
	for _, every := range []int{1, 2, 3, 7, 1000} {
		for _, n := range []int{16, 17, 40, 58, 59, 60, 118, 200} {
			l := layout(7, 2, 32, 4)
			d := flashdev.New(end(l))
			r, e := Open(d, l, of(l, 1, 9))
			if e != api.OK {
				t.Fatalf("Open: error %d", e)
			}
			for i := 1; r.Room() >= n; i++ {
				if _, _, e := r.Append(sized(n)); e != api.OK {
					t.Fatalf("Append: error %d", e)
				}
				if i%every == 0 && r.Sync() != api.OK {
					t.Error("Sync has an error")
				}
				if want := 1 + (31*59-r.Room())/59; d.Writes() != want {
					t.Errorf("after %d records of %d bytes: %d Writes, want %d", i, n, d.Writes(), want)
				}
			}
			r.Sync()
			if want := 1 + (31*59-r.Room())/59; d.Writes() != want || r.Room()%59 != 0 {
				t.Errorf("at the end: %d Writes, want %d, and Room %d", d.Writes(), want, r.Room())
			}
		}
	}
}

func TestSync(t *testing.T) {
	for version := 1; version <= 2; version++ {
		x := newTwin(t, layout(7, version, 8, 4), 2, 300)
		syncs := func(writes, room int) {
			t.Helper()
			x.sync(writes)
			for range 2 {
				x.sync(0) // finds nothing to write
			}
			if got := x.r.Room(); got != room {
				t.Errorf("Room %d after Sync, want %d", got, room)
			}
		}
		syncs(0, 413)                  // an empty stream
		x.append(flush(), api.OK, 0)   // in the middle of a frame
		syncs(1, 354)                  //
		x.append(sized(59), api.OK, 1) // full frames only
		syncs(0, 295)
		x.append(sized(58), api.OK, 0) // a byte before
		syncs(1, 236)
		x.append(sized(60), api.OK, 1) // a byte behind
		syncs(1, 118)
		x.append(sized(59+40), api.OK, 1)
		syncs(1, 0) // to the end of the region
		x.append(flush(), api.ErrFit, 0)
		syncs(0, 0) // a full region
	}
}

// TestSyncAtEveryLength has streams of all lengths that one record can make, and looks for their padding on the device.
func TestSyncAtEveryLength(t *testing.T) {
	for n := 16; n <= 177; n++ {
		x := newTwin(t, layout(7, 1+n%2, 4, 4), 0, n)
		x.append(sized(n), api.OK, n/59)
		x.sync((n+58)/59 - n/59)
		want := append(x.r.Read(0, n), make([]byte, (59-n%59)%59)...)
		if got := x.found(x.d.Crash(nil, nil)); !bytes.Equal(got, want) || x.r.Room() != 177-len(want) {
			t.Errorf("%d bytes: Room %d, and %s on the device", n, x.r.Room(), brief(got))
		}
		x.sync(0)
	}
}

// TestSyncOnRegionsOfAllSizes fills regions to the last byte, and looks for all of it on the device.
func TestSyncOnRegionsOfAllSizes(t *testing.T) {
	for i := range 11 {
		for _, slot := range []int{0, 3} {
			x := newTwin(t, layout(9, 1+i%2, 2<<i, 4), slot, 7)
			for x.r.Room() > 0 {
				if e := x.tryAppend(sized(min(60400, x.r.Room()))); e != api.OK {
					t.Fatalf("Append: error %d", e)
				}
			}
			if x.d.Writes() != x.l.RegionSectors+1 { // one of them made a sector dirty before
				t.Errorf("%d Writes for %d sectors", x.d.Writes()-1, x.l.RegionSectors)
			}
			x.append(flush(), api.ErrFit, 0)
			x.sync(0)
			if got := x.found(x.d.Crash(nil, nil)); !bytes.Equal(got, x.stream) || len(got) != x.capacity() {
				t.Errorf("%d bytes on the device, want %d", len(got), x.capacity())
			}
		}
	}
}

// TestSyncCallsBarrierOnce counts the calls of the device.
func TestSyncCallsBarrierOnce(t *testing.T) {
	for n := 0; n <= 177; n++ {
		x := newTwin(t, layout(7, 2, 4, 4), 0, 9)
		if n >= 16 {
			x.append(sized(n), api.OK, n/59)
		}
		calls := 1
		if n >= 16 && n%59 != 0 {
			calls = 2
		}
		x.d.Fuse(1000)
		x.model.Fuse(1000)
		x.trySync()
		if got := 1000 - left(x.d); got != calls {
			t.Errorf("Sync of %d bytes makes %d calls of the device, want %d", n, got, calls)
		}
	}
}

// fate has the errors that the calls of a short life have with a fuse.
type fate struct {
	fuse                         int
	a, b, sync, c, d, again, end api.Errno
	writes                       int
}

// TestWhatCallsReturnWithoutPower has a life of a region whose power fails at every Write and at every Barrier. A call that needs no power has no error of the device, before as afterwards.
func TestWhatCallsReturnWithoutPower(t *testing.T) {
	const ok, down = api.OK, api.ErrDown
	for _, f := range []fate{
		{2, ok, down, down, ok, down, down, down, 1}, // the Write of Append
		{3, ok, ok, down, ok, down, down, down, 2},   // the Write of Sync
		{4, ok, ok, down, ok, down, down, down, 3},   // the Barrier of Sync
		{5, ok, ok, ok, ok, down, down, down, 3},     // the first Write of Append
		{6, ok, ok, ok, ok, down, down, down, 4},     // the second one
		{7, ok, ok, ok, ok, ok, down, down, 5},       // the Barrier of a Sync that has nothing to write
		{8, ok, ok, ok, ok, ok, ok, down, 5},
		{9, ok, ok, ok, ok, ok, ok, ok, 5},
		{-1, ok, ok, ok, ok, ok, ok, ok, 5},
	} {
		for version := 1; version <= 2; version++ {
			d := flashdev.New(106)
			d.Fuse(f.fuse)
			r, e := Open(d, layout(3, version, 8, 4), of(layout(3, version, 8, 4), 1, 7))
			if e != api.OK {
				t.Fatalf("Open with the fuse %d: error %d", f.fuse, e)
			}
			got := fate{fuse: f.fuse}
			place := func(wantOff, wantN, room int, r *Region, x api.Record) api.Errno {
				t.Helper()
				off, n, e := r.Append(x)
				if e != api.OK {
					wantOff, wantN = 0, 0
				}
				if off != wantOff || n != wantN || r.Room() != room {
					t.Errorf("the fuse %d: Append = %d, %d, error %d, and Room %d, want %d, %d and %d", f.fuse, off, n, e, r.Room(), wantOff, wantN, room)
				}
				return e
			}
			got.a = place(0, 40, 373, r, sized(40))
			got.b = place(40, 50, 323, r, sized(50))
			got.sync = r.Sync()
			got.c = place(118, 30, 265, r, sized(30))
			got.d = place(148, 88, 177, r, sized(88))
			got.again = r.Sync()
			got.end = r.Sync()
			got.writes = d.Writes()
			if got != f {
				t.Errorf("the calls return %+v, want %+v", got, f)
			}
			if r.Header().Seq != 7 || r.Room() != 177 || len(r.Read(0, 236)) != 236 {
				t.Errorf("the fuse %d: the region has forgotten something", f.fuse)
			}
		}
	}
}

// TestPowerFails lets the power fail at every Write and at every Barrier of a longer life, in which 0 stands for a Sync. A crash that keeps nothing leaves what the last Sync made durable.
func TestPowerFails(t *testing.T) {
	life := []int{30, 0, 40, 100, 59, 0, 0, 300, 16, 17, 42, 59, 0, 700, 400, 0, 59, 118, 0, 20, 0, 900, 0}
	const calls = 2 + 29 + 8 // those of Open, the frames and the Syncs
	for version := 1; version <= 2; version++ {
		l := layout(3, version, 32, 5)
		for fuse := range calls + 2 {
			x := openTwin(t, end(l), fuse, l, of(l, 4, 70000))
			if (x.r != nil) != (fuse >= 2) {
				t.Fatalf("the fuse %d: a region: %v", fuse, x.r != nil)
			}
			if x.r == nil {
				continue
			}
			synced := 0
			for _, n := range life {
				if n > 0 {
					x.tryAppend(sized(n))
				} else if x.trySync() == api.OK {
					synced = len(x.stream)
				}
				if got := x.found(x.d.Crash(nil, nil)); !bytes.Equal(got, x.stream[:synced]) {
					t.Errorf("the fuse %d: %d bytes are left after a crash, want %d", fuse, len(got), synced)
				}
			}
			if x.d.Dead() != (fuse < calls) {
				t.Errorf("the fuse %d: dead: %v", fuse, x.d.Dead())
			}
		}
	}
}

// TestSmallDevices has devices that end within the region: what has no sector is in the region, but is not written.
func TestSmallDevices(t *testing.T) {
	for version := 1; version <= 2; version++ {
		l := layout(3, version, 8, 4)
		for there := range 8 {
			for _, fuse := range []int{-1, 5, 2 + there} {
				x := openTwin(t, first(l, 2)+1+there, fuse, l, of(l, 2, 9))
				for _, n := range []int{58, 16, 104, 0, 59, 118, 300, 0, 0} {
					if n > 0 {
						x.tryAppend(sized(n))
					} else {
						x.trySync()
					}
				}
			}
		}
		x := openTwin(t, first(l, 2)+3, -1, l, of(l, 2, 9))
		x.append(sized(59*4), api.ErrRange, 2)
		x.append(sized(40), api.OK, 0)
		x.append(sized(40), api.ErrRange, 0)
		if e := x.trySync(); e != api.ErrRange {
			t.Errorf("Sync: error %d", e)
		}
		x.sync(0) // no frame is left to be written
	}
}

// TestCrashes keeps every set of the dirty sectors: those of the region are its own, in the order of its frames.
func TestCrashes(t *testing.T) {
	l := layout(3, 2, 8, 4)
	x := newTwin(t, l, 1, 9)
	x.append(sized(70), api.OK, 1)
	x.sync(1)
	x.append(sized(59*3+20), api.OK, 3)
	for set := range 8 {
		keep := []bool{set&1 != 0, set&2 != 0, set&4 != 0}
		kept := 2 + slices.Index(append(slices.Clone(keep), false), false)
		if got := x.found(x.d.Crash(keep, nil)); !bytes.Equal(got, x.stream[:59*kept]) {
			t.Errorf("after a crash that keeps %v: %d bytes, want %d", keep, len(got), 59*kept)
		}
	}
}

// expectRead reports an error unless Read returns those bytes, or none of them for nil.
func expectRead(t *testing.T, r *Region, off, n int, want []byte) {
	t.Helper()
	if got := r.Read(off, n); !bytes.Equal(got, want) {
		t.Errorf("Read(%d, %d) = %s, want %s", off, n, brief(got), brief(want))
	}
}

// TestRead has all parts of a stream, and parts that reach beyond its ends, of what was written and of what was not.
func TestRead(t *testing.T) {
	x := newTwin(t, layout(7, 2, 4, 4), 3, 9)
	all := func() {
		t.Helper()
		for off := -3; off <= len(x.stream)+3; off++ {
			for n := -3; n <= len(x.stream)+3; n++ {
				var want []byte
				if off >= 0 && n >= 0 && off+n <= len(x.stream) {
					want = x.stream[off : off+n]
				}
				expectRead(t, x.r, off, n, want)
			}
		}
	}
	all() // no records
	x.append(sized(40), api.OK, 0)
	all() // nothing is written
	x.append(sized(30), api.OK, 1)
	all() // a part is
	x.sync(1)
	all() // everything is, with the padding
	x.append(sized(59), api.OK, 1)
	all()
}

func TestReadOfNoPlace(t *testing.T) {
	for _, length := range []int{0, 17, 59, 177} {
		x := newTwin(t, layout(7, 1, 4, 4), 3, 9)
		if length > 0 {
			x.append(sized(length), api.OK, length/59)
		}
		for _, far := range slices.Concat(huge, []int{-178, -1, 178}) {
			for _, near := range []int{-1, 0, 1, length - 1, length, length + 1} {
				expectRead(t, x.r, far, near, nil)
				expectRead(t, x.r, near, far, nil)
			}
			for _, other := range huge {
				expectRead(t, x.r, far, other, nil)
			}
		}
		x.look("Read")
	}
}

// TestReadDoesNotAskTheDevice has sectors that were changed, and a device that is dead.
func TestReadDoesNotAskTheDevice(t *testing.T) {
	l := layout(7, 1, 4, 4)
	x := newTwin(t, l, 3, 9)
	x.append(sized(100), api.OK, 1)
	x.sync(1)
	x.d.Write(first(l, 3)+1, nil)
	x.look("the change of a sector")
	x.d.Fuse(0)
	x.d.Barrier()
	x.look("the end of the power")
}

func TestResultsShareNoMemory(t *testing.T) {
	x := newTwin(t, layout(7, 2, 8, 4), 3, 9)
	for i := range 4 {
		x.tryAppend(sized(90))
		first, second := x.r.Read(0, len(x.stream)), x.r.Read(0, len(x.stream))
		spoil(first)
		spoil(x.r.Read(5, 0))
		if !bytes.Equal(second, x.stream) {
			t.Error("two results of Read share memory")
		}
		x.look("the change of a result of Read")
		if i == 2 {
			x.trySync()
		}
	}
	x.sync(1)
	if !bytes.Equal(x.found(x.d), x.stream) {
		t.Error("the change of a result of Read changes what is written")
	}
}

// TestResultsStay has results that must not change when the region goes on.
func TestResultsStay(t *testing.T) {
	x := newTwin(t, layout(7, 1, 16, 4), 3, 9)
	x.append(sized(59), api.OK, 1)
	b := x.r.Read(0, 59)
	old := bytes.Clone(b)
	for range 5 {
		x.tryAppend(sized(80))
		x.sync(1)
	}
	if !bytes.Equal(b, old) {
		t.Error("a later call changes an earlier result")
	}
}

func TestAppendLeavesItsArgumentAlone(t *testing.T) {
	for version := 1; version <= 2; version++ {
		for _, e := range []api.Errno{api.OK, api.ErrFit, api.ErrExpiry, api.ErrDown} {
			x := newTwin(t, layout(7, version, 4, 4), 3, 9)
			x.append(sized(50), api.OK, 0)
			key, val := noise(30, 1), noise(40, 2)
			oldKey, oldVal := bytes.Clone(key), bytes.Clone(val)
			r := api.Record{Kind: api.KindValue, Key: key[3:10], Value: val[2:9], Expiry: 5}
			switch e {
			case api.ErrFit:
				x.append(sized(100), api.OK, 2)
			case api.ErrExpiry:
				r.Expiry = -1
			case api.ErrDown:
				x.d.Fuse(0)
				x.model.Fuse(0)
			}
			if got := x.tryAppend(r); got != e {
				t.Errorf("Append: error %d, want %d", got, e)
			}
			if !bytes.Equal(key, oldKey) || !bytes.Equal(val, oldVal) {
				t.Errorf("Append with the error %d changes its argument, or what surrounds it", e)
			}
			spoil(key)
			spoil(val)
			x.look("the change of a record that was appended")
			x.trySync()
		}
	}
}

// TestReopen opens one region after the other in the same slot: each one writes the sectors again, and the one before is not used any more.
func TestReopen(t *testing.T) {
	x := newTwin(t, layout(7, 2, 8, 4), 2, 9)
	for seq := 10; seq < 14; seq++ {
		x.append(sized(200), api.OK, 3)
		x.sync(1)
		x.append(sized(100), api.OK, 1)
		h := of(x.l, 2, seq)
		h.Now += seq
		x.reopen(h)
		if x.d.Dirty() != 0 {
			t.Error("Open leaves the data of the region before dirty")
		}
	}
}

// TestRegionsAreApart has regions in the slots of one device, with the same records at other places and at other times.
func TestRegionsAreApart(t *testing.T) {
	l := layout(7, 1, 8, 4)
	d, model := flashdev.New(end(l)), flashdev.New(end(l))
	var all []*twin
	for slot := range 4 {
		x := &twin{t: t, d: d, model: model, l: l}
		x.reopen(of(l, slot, 9+slot%3))
		all = append(all, x)
	}
	for i := range 5 {
		for k, x := range all {
			x.tryAppend(sized(20 + 17*((i+k)%4)))
			if (i+k)%3 == 0 {
				x.trySync()
			}
		}
		for _, x := range all {
			x.look("calls of other regions")
		}
	}
	for _, x := range all {
		x.trySync()
	}
	for _, x := range all {
		if got := x.found(d.Crash(nil, nil)); !bytes.Equal(got, x.stream) {
			t.Errorf("the slot %d has %d bytes, want %d", x.h.Slot, len(got), len(x.stream))
		}
	}
}

// TestManyCalls makes calls of all kinds, without a visible pattern, until some time after the region is full or the power has failed.
func TestManyCalls(t *testing.T) {
	seed := uint32(1)
	next := func(n int) int {
		seed = seed*1664525 + 1013904223
		return int(seed>>16) % n
	}
	for range 300 {
		l := layout(1+next(9), 1+next(2), 2<<next(5), 4+next(5))
		x := openTwin(t, end(l), 2+next(60), l, of(l, next(l.Regions), 1+next(1000)))
		for range 40 {
			switch next(6) {
			case 0:
				x.trySync()
			case 1:
				off, n := next(len(x.stream)+2), next(len(x.stream)+2)
				var want []byte
				if off+n <= len(x.stream) {
					want = x.stream[off : off+n]
				}
				expectRead(t, x.r, off, n, want)
			case 2:
				x.tryAppend(api.Record{Kind: next(5), Key: noise(next(3), seed), Value: noise(next(2), seed), Expiry: next(3) - 1})
			default:
				x.tryAppend(sized(16 + next(120)))
			}
		}
	}
}

// expectDown reports an error unless a region without a device returns nothing but ErrDown, zeros and nil.
func expectDown(t *testing.T, r *Region) {
	t.Helper()
	for range 2 {
		for _, x := range []api.Record{{}, flush(), value("k", "v", 0), value("", "", -1), value("k", string(make([]byte, 65537)), 0)} {
			if off, n, e := r.Append(x); off != 0 || n != 0 || e != api.ErrDown {
				t.Errorf("Append of Kind %d = %d, %d, error %d", x.Kind, off, n, e)
			}
		}
		if e := r.Sync(); e != api.ErrDown {
			t.Errorf("Sync: error %d", e)
		}
		if h, room := r.Header(), r.Room(); h != (api.Header{}) || room != 0 {
			t.Errorf("the header %+v and Room %d", h, room)
		}
		for _, n := range slices.Concat(huge, []int{-1, 0, 1, 59}) {
			if r.Read(n, 0) != nil || r.Read(0, n) != nil || r.Read(n, n) != nil {
				t.Errorf("Read of %d has bytes", n)
			}
		}
	}
}

func TestNilRegion(t *testing.T) {
	expectDown(t, nil)
}

// TestZeroRegion has a region that Open did not return: it has no device.
func TestZeroRegion(t *testing.T) {
	expectDown(t, new(Region))
}
