package packer

import (
	"bytes"
	"encoding/hex"
	"math"
	"slices"
	"testing"

	"flashcache/api"
	"flashcache/frame"
	"flashcache/record"
)

// letters is a value of 104 bytes.
const letters = "abcdefghijklmnopqrstuvwxyzabcdefghijklmnopqrstuvwxyzabcdefghijklmnopqrstuvwxyzabcdefghijklmnopqrstuvwxyz"

// known has slots, the bytes that another program made of three records, padding and a fourth record there, and the sectors and the frames that it made of all of it.
var known = []struct {
	l         api.Layout
	slot, seq int
	records   []api.Record
	want      []string
	sectors   []int
	frames    []string
}{
	{
		layout(3, 1, 8, 6), 1, 258,
		[]api.Record{value("key", "value", 5), tombstone("k"), flush(), value("last", letters, 0)},
		[]string{
			"a10103000000000500000005f3aa32716b657976616c7565",
			"a10201000000000000000000600bc6b56b",
			"a10300000000000000000000f7c82b7d",
			"a10104000000006800000000c7b01ea86c6173746162636465666768696a6b6c6d6e6f707172737475767778797a6162636465666768696a6b6c6d6e6f707172737475767778797a6162636465666768696a6b6c6d6e6f707172737475767778797a6162636465666768696a6b6c6d6e6f707172737475767778797a",
		},
		[]int{83, 84, 85, 86},
		[]string{
			"02a10103000000000500000005f3aa32716b657976616c7565a10201000000000000000000600bc6b56ba10300000000000000000000f7c82b7d0000cd3ca150",
			"02a10104000000006800000000c7b01ea86c6173746162636465666768696a6b6c6d6e6f707172737475767778797a6162636465666768696a6b6c6d8d9521a0",
			"026e6f707172737475767778797a6162636465666768696a6b6c6d6e6f707172737475767778797a6162636465666768696a6b6c6d6e6f70717273746050dc2a",
			"0275767778797a00000000000000000000000000000000000000000000000000000000000000000000000000000000000000000000000000000000002f961ba9",
		},
	},
	{
		layout(1<<32-1, 2, 2048, 16), 15, 1<<48 - 1,
		[]api.Record{value("key", "value", 1099511627775), tombstone("k"), flush(), value("last", letters, 0)},
		[]string{
			"a2031000000500ffffffffffdf782fe36b657976616c7565",
			"a201200000000000000000000c1f019a6b",
			"a200300000000000000000005e41d119",
			"a20410000068000000000000f279105c6c6173746162636465666768696a6b6c6d6e6f707172737475767778797a6162636465666768696a6b6c6d6e6f707172737475767778797a6162636465666768696a6b6c6d6e6f707172737475767778797a6162636465666768696a6b6c6d6e6f707172737475767778797a",
		},
		[]int{30795, 30796, 30797, 30798},
		[]string{
			"02a2031000000500ffffffffffdf782fe36b657976616c7565a201200000000000000000000c1f019a6ba200300000000000000000005e41d11900002ccf898e",
			"02a20410000068000000000000f279105c6c6173746162636465666768696a6b6c6d6e6f707172737475767778797a6162636465666768696a6b6c6d6b9af3d3",
			"026e6f707172737475767778797a6162636465666768696a6b6c6d6e6f707172737475767778797a6162636465666768696a6b6c6d6e6f7071727374fa7acc25",
			"0275767778797a0000000000000000000000000000000000000000000000000000000000000000000000000000000000000000000000000000000000b5bc0ba6",
		},
	},
}

// sizes are the numbers of sectors that a region may have.
var sizes = []int{2, 4, 8, 16, 32, 64, 128, 256, 512, 1024, 2048}

func layout(id, version, sectors, regions int) api.Layout {
	return api.Layout{ID: id, Version: version, RegionSectors: sectors, Regions: regions}
}

// layouts returns layouts of both versions and of all sizes and numbers of regions.
func layouts() []api.Layout {
	ids := []int{1, 2, 255, 256, 65536, 1 << 31, 1<<32 - 1}
	var all []api.Layout
	for i, n := range sizes {
		for regions := 4; regions <= 16; regions++ {
			all = append(all, layout(ids[(i+regions)%7], 1+(i+regions)%2, n, regions))
		}
	}
	return all
}

// noLayouts returns layouts that are not well-formed, each like l but for one number, and the zero Layout.
func noLayouts(l api.Layout) []api.Layout {
	all := []api.Layout{{}}
	for _, id := range []int{math.MinInt, -1, 0, 1 << 32, 1<<32 + l.ID, math.MaxInt} {
		all = append(all, layout(id, l.Version, l.RegionSectors, l.Regions))
	}
	for _, version := range []int{math.MinInt, -1, 0, 3, 256 + l.Version, math.MaxInt} {
		all = append(all, layout(l.ID, version, l.RegionSectors, l.Regions))
	}
	for _, n := range []int{math.MinInt, -2, 0, 1, 3, 5, 6, 2047, 2049, 4096, 1 << 62, math.MaxInt} {
		all = append(all, layout(l.ID, l.Version, n, l.Regions))
	}
	for _, regions := range []int{math.MinInt, -4, 0, 3, 17, 256 + l.Regions, math.MaxInt} {
		all = append(all, layout(l.ID, l.Version, l.RegionSectors, regions))
	}
	return all
}

// noSlots returns numbers of no slot of l.
func noSlots(l api.Layout) []int {
	return []int{math.MinInt, -1 << 62, -1 << 32, -l.Regions, -2, -1, l.Regions, l.Regions + 1, 2 * l.Regions, 1 << 32, 1 << 53, 1 << 62, math.MaxInt}
}

// seqs are sequence numbers of regions, and noSeqs are not.
var (
	seqs   = []int{1, 2, 3, 255, 256, 65536, 1<<32 + 1, 1 << 47, api.MaxSeq - 1, api.MaxSeq}
	noSeqs = []int{math.MinInt, math.MinInt + 1, -api.MaxSeq, -1 << 32, -2, -1, 0, api.MaxSeq + 1, api.MaxSeq + 2, 1 << 62, math.MaxInt - 1, math.MaxInt}
)

func value(key, value string, expiry int) api.Record {
	return api.Record{Kind: api.KindValue, Key: []byte(key), Value: []byte(value), Expiry: expiry}
}

func tombstone(key string) api.Record {
	return api.Record{Kind: api.KindTombstone, Key: []byte(key)}
}

func flush() api.Record {
	return api.Record{Kind: api.KindFlush}
}

// sized returns a record of n bytes: a flush of 16 bytes, tombstones and values of more.
func sized(n int) api.Record {
	switch {
	case n == 16:
		return flush()
	case n <= 16+255 && n%2 == 0:
		return tombstone(string(noise(n-16, uint32(n))))
	}
	return value("k", string(noise(n-17, uint32(n))), n)
}

// noise returns n bytes without a visible pattern, the same ones each time.
func noise(n int, seed uint32) []byte {
	b := make([]byte, n)
	for i := range b {
		seed = seed*1664525 + 1013904223
		b[i] = byte(seed >> 24)
	}
	return b
}

// brief shortens what an error message shows of b.
func brief(b []byte) string {
	if len(b) <= 64 {
		return hex.EncodeToString(b)
	}
	return hex.EncodeToString(b[:64]) + ".."
}

// twin is a packer and, beside it, what the chapter says of it.
type twin struct {
	t         *testing.T
	p         *Packer
	l         api.Layout
	slot, seq int
	stream    []byte
	taken     int
}

func newTwin(t *testing.T, l api.Layout, slot, seq int) *twin {
	t.Helper()
	p, e := New(l, slot, seq)
	if e != api.OK || p == nil {
		t.Fatalf("New(%+v, %d, %d) = %v, error %d", l, slot, seq, p, e)
	}
	x := &twin{t: t, p: p, l: l, slot: slot, seq: seq}
	x.look("New")
	return x
}

func (x *twin) capacity() int {
	return 59 * (x.l.RegionSectors - 1)
}

// look reports an error unless Off, Room and Bytes are those of the stream.
func (x *twin) look(what string) {
	x.t.Helper()
	if off, room := x.p.Off(), x.p.Room(); off != len(x.stream) || room != x.capacity()-len(x.stream) {
		x.t.Errorf("after %s: Off %d and Room %d, want %d of %d", what, off, room, len(x.stream), x.capacity())
	}
	if got := x.p.Bytes(0, len(x.stream)); !bytes.Equal(got, x.stream) {
		x.t.Errorf("after %s: the stream is %s, want %s", what, brief(got), brief(x.stream))
	}
}

// fate returns the error that the chapter demands of Put of r.
func (x *twin) fate(r api.Record) api.Errno {
	if e := record.Check(x.l.Version, r); e != api.OK {
		return e
	}
	if len(x.stream)+record.Length(r) > x.capacity() {
		return api.ErrFit
	}
	return api.OK
}

// put puts r and reports an error unless it is put, or refused with that error.
func (x *twin) put(r api.Record, want api.Errno) {
	x.t.Helper()
	wantOff, wantN := 0, 0
	if want == api.OK {
		b, e := record.Encode(x.l.Version, x.seq, len(x.stream), r)
		if e != api.OK {
			x.t.Fatalf("no bytes of Kind %d: error %d", r.Kind, e)
		}
		wantOff, wantN = len(x.stream), len(b)
		x.stream = append(x.stream, b...)
	}
	if off, n, e := x.p.Put(r); off != wantOff || n != wantN || e != want {
		x.t.Errorf("Put of Kind %d, key of %d, value of %d = %d, %d, error %d, want %d, %d, error %d",
			r.Kind, len(r.Key), len(r.Value), off, n, e, wantOff, wantN, want)
	}
	x.look("Put")
}

// fill puts records until the stream has that length; the largest region needs two of them.
func (x *twin) fill(length int) {
	x.t.Helper()
	for len(x.stream) < length {
		x.put(sized(min(60400, length-len(x.stream))), api.OK)
	}
}

func (x *twin) pad() {
	x.t.Helper()
	for len(x.stream)%59 != 0 {
		x.stream = append(x.stream, 0)
	}
	x.p.Pad()
	x.look("Pad")
}

// take reports an error unless Take returns the next full frames, which are that many.
func (x *twin) take(want int) {
	x.t.Helper()
	sectors, frames := x.p.Take()
	if len(sectors) != want || len(frames) != want {
		x.t.Fatalf("Take = %v and %d frames, want %d behind %d", sectors, len(frames), want, x.taken)
	}
	for i, got := range frames {
		sector := 74 + x.slot*x.l.RegionSectors + 1 + x.taken
		b, e := frame.Encode(api.FrameData, x.seq, sector, x.stream[59*x.taken:59*x.taken+59])
		if e != api.OK || sectors[i] != sector || !bytes.Equal(got, b) {
			x.t.Errorf("Take: the frame %d is %s for the sector %d, want %s for %d", x.taken, brief(got), sectors[i], brief(b), sector)
		}
		x.taken++
	}
	x.look("Take")
}

// full returns how many full frames were not taken yet.
func (x *twin) full() int {
	return len(x.stream)/59 - x.taken
}

func TestExampleOfTheChapter(t *testing.T) {
	p, e := New(layout(1, 1, 4, 4), 0, 1)
	if e != api.OK {
		t.Fatalf("New: error %d", e)
	}
	if off, n, e := p.Put(tombstone("k")); off != 0 || n != 17 || e != api.OK {
		t.Errorf("Put = %d, %d, error %d", off, n, e)
	}
	if p.Off() != 17 || p.Room() != 160 {
		t.Errorf("Off %d, Room %d", p.Off(), p.Room())
	}
	if sectors, frames := p.Take(); len(sectors) != 0 || len(frames) != 0 {
		t.Errorf("Take = %v and %d frames", sectors, len(frames))
	}
	p.Pad()
	if p.Off() != 59 {
		t.Errorf("Off %d after Pad", p.Off())
	}
	if sectors, frames := p.Take(); !slices.Equal(sectors, []int{75}) || len(frames) != 1 {
		t.Errorf("Take = %v and %d frames after Pad", sectors, len(frames))
	}
}

func TestKnownBytes(t *testing.T) {
	for _, x := range known {
		p, e := New(x.l, x.slot, x.seq)
		if e != api.OK {
			t.Fatalf("New(%+v, %d, %d): error %d", x.l, x.slot, x.seq, e)
		}
		offs := []int{0, 24, 41, 59}
		for i, r := range x.records {
			off, n, e := p.Put(r)
			if off != offs[i] || n != len(x.want[i])/2 || e != api.OK {
				t.Errorf("Put of the record %d = %d, %d, error %d", i, off, n, e)
			}
			if got := hex.EncodeToString(p.Bytes(off, n)); got != x.want[i] {
				t.Errorf("the record %d is %s, want %s", i, got, x.want[i])
			}
			if i >= 2 {
				p.Pad()
			}
		}
		sectors, frames := p.Take()
		if !slices.Equal(sectors, x.sectors) || len(frames) != len(x.frames) {
			t.Fatalf("Take = %v and %d frames, want %v", sectors, len(frames), x.sectors)
		}
		for i, b := range frames {
			if got := hex.EncodeToString(b); got != x.frames[i] {
				t.Errorf("the frame %d is %s, want %s", i, got, x.frames[i])
			}
		}
	}
}

func expectNoPacker(t *testing.T, l api.Layout, slot, seq int, want api.Errno) {
	t.Helper()
	if p, e := New(l, slot, seq); p != nil || e != want {
		t.Errorf("New(%+v, %d, %d) = %v, error %d, want %d", l, slot, seq, p, e, want)
	}
}

func TestNew(t *testing.T) {
	for _, l := range layouts() {
		for slot := range l.Regions {
			for _, seq := range seqs {
				newTwin(t, l, slot, seq).take(0)
			}
		}
	}
}

func TestNewWithoutAWellFormedLayout(t *testing.T) {
	for _, l := range layouts() {
		for _, none := range noLayouts(l) {
			for _, slot := range []int{math.MinInt, -1, 0, 3, none.Regions - 1, none.Regions, math.MaxInt} {
				for _, seq := range []int{math.MinInt, 0, 1, api.MaxSeq, api.MaxSeq + 1} {
					expectNoPacker(t, none, slot, seq, api.ErrForm)
				}
			}
		}
	}
}

func TestNewOutOfRange(t *testing.T) {
	for _, l := range layouts() {
		for _, slot := range noSlots(l) {
			for _, seq := range slices.Concat(seqs, noSeqs) {
				expectNoPacker(t, l, slot, seq, api.ErrRange)
			}
		}
		for slot := range l.Regions {
			for _, seq := range noSeqs {
				expectNoPacker(t, l, slot, seq, api.ErrRange)
			}
		}
	}
}

// TestFramesOfAllSlots has a full region for every slot of some layouts of all sizes.
func TestFramesOfAllSlots(t *testing.T) {
	for i, n := range sizes {
		for _, regions := range []int{4, 16} {
			for slot := range regions {
				x := newTwin(t, layout(9, 1+(i+slot)%2, n, regions), slot, seqs[(i+slot)%len(seqs)])
				x.fill(x.capacity())
				x.take(n - 1)
				x.take(0)
			}
		}
	}
}

func TestPutOfAllKinds(t *testing.T) {
	for version := 1; version <= 2; version++ {
		most := api.MaxExpiry1
		if version == 2 {
			most = api.MaxExpiry2
		}
		for _, seq := range seqs {
			x := newTwin(t, layout(7, version, 2048, 4), 2, seq)
			for _, r := range []api.Record{
				flush(), {Kind: api.KindFlush, Key: []byte{}, Value: []byte{}}, flush(),
				tombstone("k"), tombstone("\x00"), tombstone(string(noise(255, 1))), tombstone("k"),
				value("k", "", 0), value("k", "v", 1), value("k", "v", 1), value("key", "value", most),
				value("\x00", "\x00\x00", 0), value(string(noise(255, 2)), string(noise(65536, 3)), most-1),
				value("k", string(noise(1000, 4)), 0), flush(),
			} {
				x.put(r, api.OK)
			}
			x.take(len(x.stream) / 59)
		}
	}
}

// TestPutAtEveryOffset has the same record at every place of a frame: its bytes depend on where it is.
func TestPutAtEveryOffset(t *testing.T) {
	for version := 1; version <= 2; version++ {
		for before := 16; before <= 16+118; before++ {
			x := newTwin(t, layout(7, version, 8, 4), 1, 5)
			x.put(sized(before), api.OK)
			x.put(value("key", "value", 9), api.OK)
			x.put(value("key", "value", 9), api.OK)
			x.take(len(x.stream) / 59)
			x.pad()
			x.take(x.full())
		}
	}
}

// refused is a record and the error of Put of it.
type refused struct {
	r api.Record
	e api.Errno
}

// bad returns records that a format refuses. Many of them have further defects, of which the error comes later.
func bad(version int) []refused {
	key, val := make([]byte, 256), make([]byte, 65537)
	most := api.MaxExpiry1
	if version == 2 {
		most = api.MaxExpiry2
	}
	return []refused{
		{api.Record{}, api.ErrForm},
		{api.Record{Kind: -1}, api.ErrForm},
		{api.Record{Kind: 4, Key: []byte("k")}, api.ErrForm},
		{api.Record{Kind: math.MinInt, Key: key, Value: val, Expiry: -1}, api.ErrForm},
		{api.Record{Kind: api.KindTombstone, Key: []byte("k"), Value: []byte("v")}, api.ErrForm},
		{api.Record{Kind: api.KindTombstone, Key: []byte("k"), Expiry: 1}, api.ErrForm},
		{api.Record{Kind: api.KindTombstone, Key: key, Value: val, Expiry: -1}, api.ErrForm},
		{api.Record{Kind: api.KindFlush, Key: []byte("k")}, api.ErrForm},
		{api.Record{Kind: api.KindFlush, Value: []byte("v")}, api.ErrForm},
		{api.Record{Kind: api.KindFlush, Expiry: 1}, api.ErrForm},
		{api.Record{Kind: api.KindFlush, Key: key, Value: val, Expiry: math.MinInt}, api.ErrForm},
		{api.Record{Kind: api.KindValue}, api.ErrKey},
		{api.Record{Kind: api.KindTombstone}, api.ErrKey},
		{api.Record{Kind: api.KindValue, Key: key}, api.ErrKey},
		{api.Record{Kind: api.KindTombstone, Key: key}, api.ErrKey},
		{api.Record{Kind: api.KindValue, Key: key, Value: val, Expiry: -1}, api.ErrKey},
		{api.Record{Kind: api.KindValue, Value: val}, api.ErrKey},
		{api.Record{Kind: api.KindValue, Expiry: most + 1}, api.ErrKey},
		{api.Record{Kind: api.KindValue, Key: []byte("k"), Value: val}, api.ErrValue},
		{api.Record{Kind: api.KindValue, Key: key[:255], Value: val, Expiry: -1}, api.ErrValue},
		{api.Record{Kind: api.KindValue, Key: []byte("k"), Value: make([]byte, 1<<17), Expiry: most + 1}, api.ErrValue},
		{value("k", "v", -1), api.ErrExpiry},
		{value("k", "v", math.MinInt), api.ErrExpiry},
		{value("k", "v", most+1), api.ErrExpiry},
		{value("k", "v", math.MaxInt), api.ErrExpiry},
		{api.Record{Kind: api.KindValue, Key: []byte("k"), Value: val[:65536], Expiry: -1}, api.ErrExpiry}, // nor does it fit into most regions
	}
}

// TestErrorsOfPut has each error on packers with much, little and no room, and before and after Take.
func TestErrorsOfPut(t *testing.T) {
	for version := 1; version <= 2; version++ {
		for _, n := range []int{2, 4, 2048} {
			x := newTwin(t, layout(7, version, n, 4), 3, 9)
			refuse := func() {
				t.Helper()
				for _, b := range bad(version) {
					x.put(b.r, b.e)
				}
			}
			refuse()
			x.take(0)
			x.fill(x.capacity() - 20)
			refuse()
			x.take(n - 2)
			refuse()
			x.put(sized(17), api.OK)
			x.put(sized(17), api.ErrFit)
			refuse()
			x.pad()
			refuse()
			x.take(1)
			refuse()
			x.put(flush(), api.ErrFit)
		}
	}
}

// TestErrorsLeaveNoTrace compares a packer that refused records with one that was never asked.
func TestErrorsLeaveNoTrace(t *testing.T) {
	for version := 1; version <= 2; version++ {
		x, y := newTwin(t, layout(7, version, 4, 4), 1, 9), newTwin(t, layout(7, version, 4, 4), 1, 9)
		for range 3 {
			for _, b := range bad(version) {
				x.put(b.r, b.e)
			}
			x.put(sized(178), api.ErrFit)
			x.put(value("k", string(make([]byte, 65536)), 0), api.ErrFit)
			for _, z := range []*twin{x, y} {
				z.put(value("key", "a value", 3), api.OK)
				z.put(tombstone("key"), api.OK)
			}
			if !bytes.Equal(x.p.Bytes(0, x.p.Off()), y.p.Bytes(0, y.p.Off())) {
				t.Error("a refused record changes the stream")
			}
			x.take(y.full())
			y.take(y.full())
		}
	}
}

// TestRoom fills regions to the last byte, and tries a byte more, from every remainder of a frame.
func TestRoom(t *testing.T) {
	for version := 1; version <= 2; version++ {
		for _, n := range []int{2, 4, 8} {
			capacity := 59 * (n - 1)
			for first := 16; first <= capacity; first++ {
				x := newTwin(t, layout(7, version, n, 5), 4, 11)
				x.put(sized(capacity+1), api.ErrFit)
				x.put(sized(first), api.OK)
				room := capacity - first
				x.put(sized(max(room+1, 16)), api.ErrFit)
				if room >= 16 {
					x.put(sized(room+2), api.ErrFit)
					x.put(sized(room), api.OK)
					x.put(flush(), api.ErrFit)
					x.take(n - 1)
				}
			}
		}
	}
}

func TestAWholeRegionInOneRecord(t *testing.T) {
	for version := 1; version <= 2; version++ {
		for _, n := range sizes[:10] {
			x := newTwin(t, layout(7, version, n, 4), 0, 1)
			x.put(sized(59*(n-1)+1), api.ErrFit)
			x.put(sized(59*(n-1)), api.OK)
			x.put(flush(), api.ErrFit)
			x.pad()
			x.take(n - 1)
		}
	}
}

// TestTheGreatestRecords has records with the longest key and the longest value, of which the largest region takes one.
func TestTheGreatestRecords(t *testing.T) {
	long := value(string(noise(255, 1)), string(noise(65536, 2)), 0)
	for version := 1; version <= 2; version++ {
		x := newTwin(t, layout(7, version, 2048, 4), 0, 1)
		x.put(long, api.OK)
		x.put(long, api.ErrFit)
		x.put(sized(x.capacity()-65807+1), api.ErrFit)
		x.put(sized(x.capacity()-65807), api.OK)
		x.take(2047)
		y := newTwin(t, layout(7, version, 1024, 4), 0, 1)
		y.put(long, api.ErrFit)
		y.put(sized(60358), api.ErrFit)
		y.put(sized(60357), api.OK)
	}
}

// TestRecordsThatEndAtAFrame has records that end one byte before, at, and one byte behind the end of a frame.
func TestRecordsThatEndAtAFrame(t *testing.T) {
	for version := 1; version <= 2; version++ {
		for _, frames := range []int{1, 2, 5} {
			for _, first := range []int{0, 16, 17, 30} {
				for _, past := range []int{-1, 0, 1} {
					x := newTwin(t, layout(7, version, 8, 4), 2, 300)
					if first > 0 {
						x.put(sized(first), api.OK)
						x.take(0)
					}
					x.put(sized(59*frames-first+past), api.OK)
					want := frames
					if past < 0 {
						want--
					}
					x.take(want)
					x.put(sized(40), api.OK)
					x.take(frames + (past+40)/59 - want)
				}
			}
		}
	}
}

// TestRecordsInSeveralFrames takes after each record, and only at the end.
func TestRecordsInSeveralFrames(t *testing.T) {
	for version := 1; version <= 2; version++ {
		x, y := newTwin(t, layout(7, version, 64, 4), 2, 300), newTwin(t, layout(7, version, 64, 4), 2, 300)
		for _, n := range []int{60, 118, 119, 177, 200, 1000, 58, 59, 1, 700} {
			x.put(sized(n+16), api.OK)
			y.put(sized(n+16), api.OK)
			x.take(x.full())
			x.take(0)
		}
		y.take(y.full())
		if x.taken != y.taken || x.taken != len(x.stream)/59 {
			t.Errorf("%d frames after each record, %d at the end", x.taken, y.taken)
		}
	}
}

func TestPad(t *testing.T) {
	for version := 1; version <= 2; version++ {
		x := newTwin(t, layout(7, version, 8, 4), 2, 300)
		pads := func(want int) {
			t.Helper()
			for range 3 { // the second one and the third one find nothing to do
				x.pad()
				if x.p.Off() != want {
					t.Errorf("Off %d after Pad, want %d", x.p.Off(), want)
				}
			}
		}
		pads(0) // an empty stream
		x.take(0)
		x.put(flush(), api.OK) // in the middle of a frame
		pads(59)
		x.put(sized(59), api.OK) // at a multiple of 59
		pads(118)
		x.put(sized(58), api.OK) // a byte before
		pads(177)
		x.put(sized(60), api.OK) // a byte behind
		pads(295)
		x.take(5)
		x.put(sized(59+40), api.OK)
		pads(413) // to the end of the region
		x.take(2)
		x.put(flush(), api.ErrFit)
		pads(413) // a full stream
	}
}

// TestPadAtEveryLength pads streams of all lengths that one record can make.
func TestPadAtEveryLength(t *testing.T) {
	for n := 16; n <= 177; n++ {
		x := newTwin(t, layout(7, 1+n%2, 4, 4), 0, n)
		x.put(sized(n), api.OK)
		x.pad()
		if want := (n + 58) / 59 * 59; x.p.Off() != want || x.p.Room() != 177-want {
			t.Errorf("a stream of %d bytes: Off %d and Room %d after Pad, want Off %d", n, x.p.Off(), x.p.Room(), want)
		}
		x.take((n + 58) / 59)
	}
}

func TestPutAfterPad(t *testing.T) {
	for version := 1; version <= 2; version++ {
		x := newTwin(t, layout(7, version, 4, 4), 0, 1)
		for i := range 3 {
			x.put(tombstone("k"), api.OK) // at another offset each time, thus with other bytes
			x.pad()
			if got := x.p.Off(); got != 59*(i+1) {
				t.Errorf("Off %d after %d records", got, i+1)
			}
		}
		x.put(tombstone("k"), api.ErrFit)
		x.take(3)
	}
}

func TestTake(t *testing.T) {
	for version := 1; version <= 2; version++ {
		x := newTwin(t, layout(7, version, 16, 4), 3, 70000)
		x.take(0)
		x.take(0)
		x.put(sized(58), api.OK)
		x.take(0) // a byte is missing
		x.put(sized(20), api.OK)
		x.take(1)
		x.take(0)
		x.put(sized(40), api.OK) // 118
		x.take(1)
		x.take(0)
		x.put(sized(180), api.OK)
		x.put(sized(20), api.OK) // 318
		x.take(3)
		x.take(0)
		x.pad() // 354
		x.take(1)
		x.pad()
		x.take(0)
		x.put(sized(30), api.OK)
		x.take(0)
		x.put(sized(30), api.OK) // 414
		x.put(sized(59), api.OK)
		x.pad() // 531
		x.take(3)
		x.put(sized(354), api.OK)
		x.take(6)
		x.take(0)
		x.pad()
		x.take(0)
	}
}

// expectBytes reports an error unless Bytes returns those bytes, or none of them for nil.
func expectBytes(t *testing.T, p *Packer, off, n int, want []byte) {
	t.Helper()
	if got := p.Bytes(off, n); !bytes.Equal(got, want) {
		t.Errorf("Bytes(%d, %d) of %d = %s, want %s", off, n, p.Off(), brief(got), brief(want))
	}
}

// TestBytes has all parts of a stream, and parts that reach beyond its ends.
func TestBytes(t *testing.T) {
	x := newTwin(t, layout(7, 2, 4, 4), 3, 9)
	all := func() {
		t.Helper()
		for off := -3; off <= len(x.stream)+3; off++ {
			for n := -3; n <= len(x.stream)+3; n++ {
				var want []byte
				if off >= 0 && n >= 0 && off+n <= len(x.stream) {
					want = x.stream[off : off+n]
				}
				expectBytes(t, x.p, off, n, want)
			}
		}
	}
	all() // an empty stream
	x.put(sized(40), api.OK)
	all()
	x.put(sized(30), api.OK)
	all()
	x.take(1)
	all() // what was taken is there, too
	x.pad()
	all()
	x.put(sized(59), api.OK)
	x.take(2)
	all()
}

func TestBytesOfNoPlace(t *testing.T) {
	huge := []int{math.MinInt, math.MinInt + 1, -1 << 62, -1 << 32, -178, -1, 178, 1 << 32, 1 << 62, math.MaxInt - 177, math.MaxInt - 1, math.MaxInt}
	for _, length := range []int{0, 17, 59, 177} {
		x := newTwin(t, layout(7, 1, 4, 4), 3, 9)
		if length > 0 {
			x.put(sized(length), api.OK)
		}
		for _, far := range huge {
			for _, near := range []int{-1, 0, 1, length - 1, length, length + 1} {
				expectBytes(t, x.p, far, near, nil)
				expectBytes(t, x.p, near, far, nil)
			}
			for _, other := range huge {
				expectBytes(t, x.p, far, other, nil)
			}
		}
		x.look("Bytes")
	}
}

// spoil overwrites b and its spare capacity.
func spoil(b []byte) {
	b = b[:cap(b)]
	for i := range b {
		b[i] ^= 0xFF
	}
}

func TestResultsShareNoMemory(t *testing.T) {
	x := newTwin(t, layout(7, 2, 8, 4), 3, 9)
	for range 4 {
		x.put(sized(90), api.OK)
		first, second := x.p.Bytes(0, x.p.Off()), x.p.Bytes(0, x.p.Off())
		spoil(first)
		spoil(x.p.Bytes(5, 0))
		if !bytes.Equal(second, x.stream) {
			t.Error("two results of Bytes share memory")
		}
		x.look("the change of a result of Bytes")
		sectors, frames := x.p.Take()
		var want [][]byte
		for _, b := range frames {
			want = append(want, bytes.Clone(b))
		}
		for i, b := range frames {
			spoil(b)
			for k := i + 1; k < len(frames); k++ {
				if !bytes.Equal(frames[k], want[k]) {
					t.Error("two frames of a result of Take share memory")
				}
			}
		}
		clear(sectors[:cap(sectors)])
		clear(frames[:cap(frames)])
		x.taken += len(sectors)
		x.look("the change of a result of Take")
	}
	x.pad()
	x.take(x.full())
}

// TestResultsStay has results that must not change when the packer goes on.
func TestResultsStay(t *testing.T) {
	x := newTwin(t, layout(7, 1, 16, 4), 3, 9)
	x.put(sized(59), api.OK)
	b := x.p.Bytes(0, 59)
	sectors, frames := x.p.Take()
	x.taken = 1
	oldB, oldSectors, oldFrame := bytes.Clone(b), slices.Clone(sectors), bytes.Clone(frames[0])
	for range 5 {
		x.put(sized(80), api.OK)
		x.take(x.full())
		x.pad()
		x.take(x.full())
	}
	if !bytes.Equal(b, oldB) || !slices.Equal(sectors, oldSectors) || !bytes.Equal(frames[0], oldFrame) {
		t.Error("a later call changes an earlier result")
	}
}

func TestPutLeavesItsArgumentAlone(t *testing.T) {
	for version := 1; version <= 2; version++ {
		for _, e := range []api.Errno{api.OK, api.ErrFit, api.ErrExpiry} {
			x := newTwin(t, layout(7, version, 4, 4), 3, 9)
			key, val := noise(30, 1), noise(40, 2)
			oldKey, oldVal := bytes.Clone(key), bytes.Clone(val)
			r := api.Record{Kind: api.KindValue, Key: key[3:10], Value: val[2:9], Expiry: 5}
			switch e {
			case api.ErrFit:
				x.put(sized(150), api.OK)
			case api.ErrExpiry:
				r.Expiry = -1
			}
			x.put(r, e)
			x.pad()
			x.take(x.full())
			if !bytes.Equal(key, oldKey) || !bytes.Equal(val, oldVal) {
				t.Errorf("Put with the error %d changes its argument, or what surrounds it", e)
			}
			spoil(key)
			spoil(val)
			x.look("the change of a record that was put")
		}
	}
}

func TestPackersAreApart(t *testing.T) {
	l := layout(7, 2, 16, 5)
	all := []*twin{newTwin(t, l, 0, 9), newTwin(t, l, 0, 9), newTwin(t, l, 1, 9), newTwin(t, l, 0, 10), newTwin(t, layout(7, 1, 8, 5), 0, 9)}
	for i := range 4 {
		for k, x := range all {
			x.put(sized(40+7*i+3*k), api.OK)
			if (i+k)%3 == 0 {
				x.pad()
			}
			if (i+k)%2 == 0 {
				x.take(x.full())
			}
		}
		for _, x := range all {
			x.look("calls of other packers")
		}
	}
	for _, x := range all {
		x.take(x.full())
	}
}

// TestManyCalls makes calls of all kinds, without a visible pattern, until some time after the region is full.
func TestManyCalls(t *testing.T) {
	seed := uint32(1)
	next := func(n int) int {
		seed = seed*1664525 + 1013904223
		return int(seed>>16) % n
	}
	for range 300 {
		l := layout(1+next(9), 1+next(2), 2<<next(6), 4+next(13))
		x := newTwin(t, l, next(l.Regions), 1+next(1000))
		for range 60 {
			switch next(8) {
			case 0:
				x.pad()
			case 1, 2:
				x.take(x.full())
			case 3:
				off, n := next(x.p.Off()+2), next(x.p.Off()+2)
				var want []byte
				if off+n <= len(x.stream) {
					want = x.stream[off : off+n]
				}
				expectBytes(t, x.p, off, n, want)
			case 4:
				r := api.Record{Kind: next(5), Key: noise(next(3), seed), Value: noise(next(2), seed), Expiry: next(3) - 1}
				x.put(r, x.fate(r))
			default:
				r := sized(16 + next(120))
				x.put(r, x.fate(r))
			}
		}
	}
}

func TestNilPacker(t *testing.T) {
	var p *Packer
	for range 2 {
		for _, r := range []api.Record{{}, flush(), value("k", "v", 0), value("", "", -1), value("k", string(make([]byte, 65537)), 0)} {
			if off, n, e := p.Put(r); off != 0 || n != 0 || e != api.ErrDown {
				t.Errorf("Put of Kind %d = %d, %d, error %d", r.Kind, off, n, e)
			}
		}
		p.Pad()
		if sectors, frames := p.Take(); len(sectors) != 0 || len(frames) != 0 {
			t.Errorf("Take = %v and %d frames", sectors, len(frames))
		}
		if p.Off() != 0 || p.Room() != 0 {
			t.Errorf("Off %d, Room %d", p.Off(), p.Room())
		}
		for _, n := range []int{math.MinInt, -1, 0, 1, 59, math.MaxInt} {
			if p.Bytes(n, 0) != nil || p.Bytes(0, n) != nil || p.Bytes(n, n) != nil {
				t.Errorf("Bytes of %d has bytes", n)
			}
		}
	}
}

// TestZeroPacker has a packer that New did not return: it has no region, and thus no room.
func TestZeroPacker(t *testing.T) {
	p := new(Packer)
	for _, r := range []api.Record{{}, flush(), value("k", "v", 0)} {
		if off, n, e := p.Put(r); off != 0 || n != 0 || e == api.OK {
			t.Errorf("Put of Kind %d = %d, %d, error %d", r.Kind, off, n, e)
		}
	}
	p.Pad()
	sectors, frames := p.Take()
	if len(sectors) != 0 || len(frames) != 0 || p.Off() != 0 || p.Room() != 0 || len(p.Bytes(0, 0)) != 0 || p.Bytes(0, 1) != nil {
		t.Error("the zero packer has a stream")
	}
}
