package planlog

import (
	"bytes"
	"encoding/hex"
	"math"
	"slices"
	"testing"

	"flashcache/api"
	"flashcache/flashdev"
	"flashcache/frame"
	"flashcache/plan"
	"flashcache/wire"
)

// known has plan records of odd and even migrations, their sectors, and the bytes that another program made of them.
var known = []struct {
	p      api.Plan
	sector int
	want   string
}{
	{begin(1, 0, layout(1, 1, 2, 4)), 2, "0401000000010000000000000000000001010104000000000000000000000000000000000000000000000000000000000000000000000000000000005bafa74b"},
	{progress(1, 1, 6, layout(4, 1, 4, 6)), 3, "0402000000010100000000000600000004010206000000000000000000000000000000000000000000000000000000000000000000000000000000000efd8108"},
	{progress(1, 35, 1, layout(4, 1, 4, 6)), 37, "040200000001230000000000010000000401020600000000000000000000000000000000000000000000000000000000000000000000000000000000c1deab34"},
	{begin(2, 9, layout(5, 2, 8, 7)), 38, "04010000000200000000000009000000050203070000000000000000000000000000000000000000000000000000000000000000000000000000000094283a4f"},
	{progress(2, 1, 9, layout(5, 2, 8, 7)), 39, "0402000000020100000000000900000005020307000000000000000000000000000000000000000000000000000000000000000000000000000000000aded076"},
	{progress(258, 7, 9, layout(4, 2, 16, 5)), 45, "040200000102070000000000090000000402040500000000000000000000000000000000000000000000000000000000000000000000000000000000a291d96b"},
	{progress(259, 18, 140737488355328, layout(2147483648, 1, 64, 10)), 20, "040200000103128000000000008000000001060a000000000000000000000000000000000000000000000000000000000000000000000000000000001bac552b"},
	{begin(4294967295, 281474976710655, layout(4294967295, 2, 2048, 16)), 2, "0401ffffffff00ffffffffffffffffffff020b100000000000000000000000000000000000000000000000000000000000000000000000000000000038859cb7"},
	{progress(4294967295, 35, 281474976710655, layout(4294967295, 2, 2048, 16)), 37, "0402ffffffff23ffffffffffffffffffff020b10000000000000000000000000000000000000000000000000000000000000000000000000000000003d8f0fae"},
	{begin(4294967294, 255, layout(4294967294, 1, 512, 9)), 38, "0401fffffffe000000000000fffffffffe01090900000000000000000000000000000000000000000000000000000000000000000000000000000000fa3283a6"},
	{progress(4294967294, 35, 281474976710654, layout(4294967294, 1, 512, 9)), 73, "0402fffffffe23fffffffffffefffffffe01090900000000000000000000000000000000000000000000000000000000000000000000000000000000d7122e5a"},
}

// migrations are numbers of migrations, odd and even ones, at the ends of their range and where a byte of their number overflows.
var migrations = []int{1, 2, 3, 4, 35, 36, 37, 255, 256, 257, 65535, 65536, 1<<31 - 1, 1 << 31, 1<<32 - 2, 1<<32 - 1}

// noMigrations are numbers of no migration.
var noMigrations = []int{0, -1, -2, -3, -4, -35, -36, -1 << 32, -1<<32 + 1, math.MinInt, math.MinInt + 1, math.MinInt + 2}

// noIndices are indices of no record.
var noIndices = []int{-1, -2, -35, -36, -37, -1 << 32, math.MinInt, math.MinInt + 1, 36, 37, 71, 72, 73, 255, 256, 1 << 32, math.MaxInt - 38, math.MaxInt - 2, math.MaxInt - 1, math.MaxInt}

func layout(id, version, sectors, regions int) api.Layout {
	return api.Layout{ID: id, Version: version, RegionSectors: sectors, Regions: regions}
}

func begin(migration, tail int, target api.Layout) api.Plan {
	return api.Plan{Kind: api.PlanBegin, Migration: migration, Tail: tail, Target: target}
}

func progress(migration, index, tail int, target api.Layout) api.Plan {
	return api.Plan{Kind: api.PlanProgress, Migration: migration, Index: index, Tail: tail, Target: target}
}

// of returns the record of a migration with that index; no two of them have the same numbers.
func of(migration, index int) api.Plan {
	target := layout(max(1, migration), 1+migration%2, 2<<(index%11), 4+index%13)
	if index == 0 {
		return begin(migration, 10, target)
	}
	return progress(migration, index, 10+index, target)
}

// first returns the first n records of a migration.
func first(migration, n int) []api.Plan {
	var records []api.Plan
	for index := range n {
		records = append(records, of(migration, index))
	}
	return records
}

// at returns the sector of a record by the words of the chapter.
func at(migration, index int) int {
	if migration%2 == 1 {
		return 2 + index
	}
	return 38 + index
}

// bad returns records that are not valid; some of them lack nothing but a sector.
func bad() []api.Plan {
	all := []api.Plan{{}, {Kind: api.PlanBegin, Migration: 1}, {Migration: 1, Target: layout(4, 1, 4, 6)}}
	for _, migration := range slices.Concat(noMigrations, []int{1 << 32, 1<<32 + 1, 1<<32 + 2, math.MaxInt - 1, math.MaxInt}) {
		all = append(all, begin(migration, 5, layout(4, 1, 4, 6)), progress(migration, 1, 5, layout(4, 1, 4, 6)))
	}
	for _, index := range noIndices {
		all = append(all, progress(1, index, 5, layout(4, 1, 4, 6)), progress(2, index, 5, layout(4, 1, 4, 6)))
	}
	for migration := 1; migration <= 2; migration++ {
		for _, index := range []int{0, 1, 35} {
			for _, spoil := range []func(p *api.Plan){
				func(p *api.Plan) { p.Kind = 0 },
				func(p *api.Plan) { p.Kind = 3 },
				func(p *api.Plan) { p.Kind = 3 - p.Kind },
				func(p *api.Plan) { p.Tail = -1 },
				func(p *api.Plan) { p.Tail = 1 << 48 },
				func(p *api.Plan) { p.Target.ID = 0 },
				func(p *api.Plan) { p.Target.Version = 3 },
				func(p *api.Plan) { p.Target.RegionSectors = 3 },
				func(p *api.Plan) { p.Target.Regions = 17 },
				func(p *api.Plan) { p.Target = api.Layout{} },
			} {
				p := of(migration, index)
				spoil(&p)
				all = append(all, p)
			}
		}
	}
	return all
}

// bytesOf returns the frame of p for that sector, whether p belongs to it or not.
func bytesOf(t *testing.T, p api.Plan, sector int) []byte {
	t.Helper()
	b, e := plan.Encode(p, sector)
	if e != api.OK {
		t.Fatalf("no frame of %+v: error %d", p, e)
	}
	return b
}

// frameOf returns the frame of that payload, whatever it is.
func frameOf(t *testing.T, kind, salt, sector int, payload []byte) []byte {
	t.Helper()
	b, e := frame.Encode(kind, salt, sector, payload)
	if e != api.OK {
		t.Fatalf("no frame of %x: error %d", payload, e)
	}
	return b
}

// noise returns n bytes without a visible pattern, the same ones each time.
func noise(n int, seed uint32) []byte {
	b := make([]byte, n)
	for i := range b {
		seed = seed*1664525 + 1013904223
		b[i] = byte(seed >> 24)
	}
	return b
}

// device returns a device whose sectors are noise, but for those of these records.
func device(t *testing.T, sectors int, records ...api.Plan) *flashdev.Device {
	t.Helper()
	image := noise(64*sectors, 1)
	for _, p := range records {
		i := at(p.Migration, p.Index)
		copy(image[64*i:64*i+64], bytesOf(t, p, i))
	}
	return flashdev.Load(image)
}

// dead returns a device with these records, on which nothing works any more.
func dead(t *testing.T, sectors int, records ...api.Plan) *flashdev.Device {
	t.Helper()
	d := device(t, sectors, records...)
	d.Fuse(0)
	d.Barrier()
	return d
}

// put writes b to that sector, without a Barrier.
func put(t *testing.T, d *flashdev.Device, sector int, b []byte) {
	t.Helper()
	if e := d.Write(sector, b); e != api.OK {
		t.Fatalf("Write to the sector %d: error %d", sector, e)
	}
}

// expectRecords reports an error unless Replay returns these records.
func expectRecords(t *testing.T, what string, d *flashdev.Device, migration int, want []api.Plan) {
	t.Helper()
	if got := Replay(d, migration); !slices.Equal(got, want) {
		t.Errorf("%s: Replay of the migration %d = %+v; want %+v", what, migration, got, want)
	}
}

// expectNone reports an error unless Replay returns no records.
func expectNone(t *testing.T, what string, d *flashdev.Device, migration int) {
	t.Helper()
	expectRecords(t, what, d, migration, nil)
}

// expectAppend reports an error unless Append of p returns e.
func expectAppend(t *testing.T, what string, d *flashdev.Device, p api.Plan, e api.Errno) {
	t.Helper()
	if got := Append(d, p); got != e {
		t.Errorf("%s: Append of %+v: error %d, want %d", what, p, got, e)
	}
}

// expectAppended reports an error unless Append of p writes b to that sector, nothing else, and leaves nothing dirty.
func expectAppended(t *testing.T, d *flashdev.Device, p api.Plan, sector int, b []byte) {
	t.Helper()
	want, writes := d.Image(), d.Writes()
	copy(want[64*sector:], b)
	expectAppend(t, "a device that works", d, p, api.OK)
	if !bytes.Equal(d.Image(), want) {
		t.Errorf("Append of %+v does not write %x to the sector %d alone", p, b, sector)
	}
	if d.Dirty() != 0 || d.Writes() != writes+1 || d.Dead() {
		t.Errorf("Append of %+v: %d sectors are dirty, %d Writes, dead: %v", p, d.Dirty(), d.Writes()-writes, d.Dead())
	}
	if !bytes.Equal(d.Crash(nil, nil).Image(), want) {
		t.Errorf("a crash after Append of %+v loses something", p)
	}
}

// expectRefused reports an error unless Append of p, without power left, returns e and has no effect.
func expectRefused(t *testing.T, what string, d *flashdev.Device, p api.Plan, e api.Errno) {
	t.Helper()
	d.Fuse(0)
	image, writes, dirty, isDead := d.Image(), d.Writes(), d.Dirty(), d.Dead()
	expectAppend(t, what, d, p, e)
	if !bytes.Equal(d.Image(), image) || d.Writes() != writes || d.Dirty() != dirty || d.Dead() != isDead {
		t.Errorf("%s: Append of %+v, which is refused, has an effect", what, p)
	}
}

func TestExampleOfTheChapter(t *testing.T) {
	for _, x := range [][3]int{{1, 0, 2}, {2, 0, 38}, {2, 36, -1}} {
		if got := Sector(x[0], x[1]); got != x[2] {
			t.Errorf("Sector(%d, %d) = %d, want %d", x[0], x[1], got, x[2])
		}
	}
	for _, migration := range slices.Concat(migrations, noMigrations) {
		expectNone(t, "an empty device", flashdev.New(100), migration)
	}
}

// TestSectorOfRecords has migrations with odd and even numbers, also ones beyond those of plan records.
func TestSectorOfRecords(t *testing.T) {
	for _, migration := range slices.Concat(migrations, []int{1 << 32, 1<<32 + 1, 1<<48 + 1, 1 << 62, math.MaxInt - 2, math.MaxInt - 1, math.MaxInt}) {
		for index := range 36 {
			if got := Sector(migration, index); got != at(migration, index) {
				t.Errorf("Sector(%d, %d) = %d, want %d", migration, index, got, at(migration, index))
			}
		}
	}
}

func TestSectorAtTheLimits(t *testing.T) {
	for _, x := range [][3]int{
		{1, -1, -1}, {1, 0, 2}, {1, 1, 3}, {1, 34, 36}, {1, 35, 37}, {1, 36, -1},
		{2, -1, -1}, {2, 0, 38}, {2, 1, 39}, {2, 34, 72}, {2, 35, 73}, {2, 36, -1},
		{0, 0, -1}, {0, 35, -1}, {-1, 0, -1}, {-1, 35, -1}, {-2, 0, -1}, {-2, 1, -1},
		{math.MinInt, 0, -1}, {math.MinInt, math.MinInt, -1}, {math.MinInt, math.MaxInt, -1}, {math.MinInt + 1, 0, -1},
		{math.MaxInt, 0, 2}, {math.MaxInt, 35, 37}, {math.MaxInt, 36, -1}, {math.MaxInt, math.MaxInt, -1}, {math.MaxInt, math.MinInt, -1},
		{math.MaxInt - 1, 0, 38}, {math.MaxInt - 1, 35, 73}, {math.MaxInt - 1, -1, -1}, {math.MaxInt - 1, math.MaxInt, -1},
	} {
		if got := Sector(x[0], x[1]); got != x[2] {
			t.Errorf("Sector(%d, %d) = %d, want %d", x[0], x[1], got, x[2])
		}
	}
}

func TestSectorOfNoRecords(t *testing.T) {
	for _, migration := range slices.Concat(migrations, noMigrations, []int{1 << 32, math.MaxInt - 1, math.MaxInt}) {
		for index := range 36 {
			if migration < 1 && Sector(migration, index) != -1 {
				t.Errorf("Sector(%d, %d) = %d, want -1", migration, index, Sector(migration, index))
			}
		}
		for _, index := range noIndices {
			if got := Sector(migration, index); got != -1 {
				t.Errorf("Sector(%d, %d) = %d, want -1", migration, index, got)
			}
		}
	}
}

func TestAppendOfKnownRecords(t *testing.T) {
	for _, sectors := range []int{74, 75, 300} {
		for _, x := range known {
			want, err := hex.DecodeString(x.want)
			if err != nil || len(want) != 64 {
				t.Fatalf("%+v: a sector of %d bytes, %v", x.p, len(want), err)
			}
			if got := Sector(x.p.Migration, x.p.Index); got != x.sector {
				t.Errorf("Sector of %+v = %d, want %d", x.p, got, x.sector)
			}
			d := device(t, sectors, first(x.p.Migration, x.p.Index)...)
			expectAppended(t, d, x.p, x.sector, want)
			expectRecords(t, "a known record", d, x.p.Migration, append(first(x.p.Migration, x.p.Index), x.p))
			expectAppended(t, d, x.p, x.sector, want)
			expectRecords(t, "a known record, once more", d, x.p.Migration, append(first(x.p.Migration, x.p.Index), x.p))
		}
	}
}

func TestAppendInOrder(t *testing.T) {
	for _, migration := range migrations {
		d := device(t, 80)
		expectNone(t, "no records", d, migration)
		for index := range 36 {
			sector := at(migration, index)
			expectAppended(t, d, of(migration, index), sector, bytesOf(t, of(migration, index), sector))
			expectRecords(t, "in order", d, migration, first(migration, index+1))
		}
	}
}

// TestAppendOutOfOrder appends the records from the last one on: they count when the first one is there.
func TestAppendOutOfOrder(t *testing.T) {
	for _, migration := range migrations {
		d := device(t, 80)
		for index := 35; index >= 0; index-- {
			expectNone(t, "without the first one", d, migration)
			sector := at(migration, index)
			expectAppended(t, d, of(migration, index), sector, bytesOf(t, of(migration, index), sector))
		}
		expectRecords(t, "from the last one on", d, migration, first(migration, 36))
	}
}

// TestAppendInJumps appends every fifth record, again and again, and looks for all that follow the first one without a gap.
func TestAppendInJumps(t *testing.T) {
	for migration := 1; migration <= 2; migration++ {
		d := device(t, 80)
		there := [37]bool{}
		for i := range 36 {
			index := (5*i + 3) % 36
			expectAppend(t, "in jumps", d, of(migration, index), api.OK)
			there[index] = true
			expectRecords(t, "in jumps", d, migration, first(migration, slices.Index(there[:], false)))
		}
	}
}

// TestAppendOfTheSameIndexTwice replaces a record by another one; those behind it remain.
func TestAppendOfTheSameIndexTwice(t *testing.T) {
	for migration := 1; migration <= 2; migration++ {
		for index := range 36 {
			d := device(t, 80, first(migration, 36)...)
			want := first(migration, 36)
			want[index].Tail += 1000
			want[index].Target = layout(77, 2, 8, 9)
			sector := at(migration, index)
			expectAppended(t, d, want[index], sector, bytesOf(t, want[index], sector))
			expectRecords(t, "after the second one", d, migration, want)
			expectAppended(t, d, of(migration, index), sector, bytesOf(t, of(migration, index), sector))
			expectRecords(t, "after the first one again", d, migration, first(migration, 36))
		}
	}
}

func TestAppendOnALargeDevice(t *testing.T) {
	d := flashdev.New(api.MaxSectors)
	for migration := 1; migration <= 2; migration++ {
		for index := range 36 {
			expectAppend(t, "the largest device", d, of(migration, index), api.OK)
		}
		expectRecords(t, "the largest device", d, migration, first(migration, 36))
	}
	if d.Writes() != 72 || d.Dirty() != 0 {
		t.Errorf("%d Writes, %d sectors are dirty", d.Writes(), d.Dirty())
	}
}

// TestAppendMakesEverythingDurable has sectors that were written before, without a Barrier.
func TestAppendMakesEverythingDurable(t *testing.T) {
	d := device(t, 80)
	for _, sector := range []int{0, 2, 38, 39, 75} {
		put(t, d, sector, []byte("dirty"))
	}
	expectAppended(t, d, of(7, 0), 2, bytesOf(t, of(7, 0), 2))
	put(t, d, 1, []byte("dirty"))
	expectAppended(t, d, of(8, 1), 39, bytesOf(t, of(8, 1), 39))
}

func TestAppendOfWhatIsNotValid(t *testing.T) {
	for _, p := range bad() {
		if plan.Valid(p) {
			t.Fatalf("%+v is valid", p)
		}
		expectAppend(t, "nil", nil, p, api.ErrForm)
		expectAppend(t, "a zero device", new(flashdev.Device), p, api.ErrForm)
		for _, d := range []*flashdev.Device{device(t, 1), device(t, 37), device(t, 80, first(1, 36)...), dead(t, 80, first(2, 36)...), dead(t, 1)} {
			d.Write(0, []byte("dirty"))
			expectRefused(t, "not valid", d, p, api.ErrForm)
		}
		d := device(t, 80, slices.Concat(first(1, 36), first(2, 36))...)
		expectAppend(t, "not valid, with power", d, p, api.ErrForm)
		if d.Writes() != 0 || d.Dirty() != 0 {
			t.Errorf("Append of %+v, which is not valid, writes something", p)
		}
		expectRecords(t, "after a record that is not valid", d, 1, first(1, 36))
		expectRecords(t, "after a record that is not valid", d, 2, first(2, 36))
	}
}

func TestAppendOnDeadDevices(t *testing.T) {
	for _, migration := range migrations {
		for _, index := range []int{0, 1, 34, 35} {
			expectAppend(t, "nil", nil, of(migration, index), api.ErrDown)
			for _, sectors := range []int{1, 2, 37, 80} { // a dead device is down before it is too short
				d := dead(t, sectors)
				image := d.Image()
				expectAppend(t, "dead", d, of(migration, index), api.ErrDown)
				if !bytes.Equal(d.Image(), image) || d.Writes() != 0 || d.Dirty() != 0 || !d.Dead() {
					t.Errorf("Append of %+v changes a dead device", of(migration, index))
				}
			}
		}
	}
}

// TestAppendOnShortDevices has room for the first records alone. A Write that is refused is not followed by a Barrier.
func TestAppendOnShortDevices(t *testing.T) {
	for _, sectors := range []int{1, 2, 3, 4, 20, 36, 37, 38, 39, 40, 72, 73, 74} {
		for migration := 1; migration <= 4; migration++ {
			for index := range 36 {
				sector := at(migration, index)
				d := device(t, sectors)
				put(t, d, 0, []byte("dirty"))
				if sector < sectors {
					expectAppended(t, d, of(migration, index), sector, bytesOf(t, of(migration, index), sector))
				} else {
					expectRefused(t, "too short", d, of(migration, index), api.ErrRange)
				}
			}
		}
	}
	expectAppend(t, "a zero device", new(flashdev.Device), of(1, 0), api.ErrRange)
}

// TestAppendWithFuses has no power for the Write, none for the Barrier, or enough for both.
func TestAppendWithFuses(t *testing.T) {
	for _, migration := range migrations {
		for _, index := range []int{0, 1, 34, 35} {
			for fuse := range 6 {
				d := device(t, 80)
				old, written := d.Image(), d.Image()
				copy(written[64*at(migration, index):], bytesOf(t, of(migration, index), at(migration, index)))
				d.Fuse(fuse)
				got := Append(d, of(migration, index))
				want, image, writes, dirty := api.OK, written, 1, 0
				switch fuse {
				case 0:
					want, image, writes = api.ErrDown, old, 0
				case 1:
					want, dirty = api.ErrDown, 1
				}
				if got != want || !bytes.Equal(d.Image(), image) || d.Writes() != writes || d.Dirty() != dirty || d.Dead() != (want != api.OK) {
					t.Errorf("Append of %+v with the fuse %d: error %d, %d Writes, %d sectors are dirty, dead: %v", of(migration, index), fuse, got, d.Writes(), d.Dirty(), d.Dead())
				}
				expectShortened(t, d, fuse-2)
			}
		}
	}
}

// expectShortened reports an error unless the device has a fuse of that length left, or is dead if it is negative.
func expectShortened(t *testing.T, d *flashdev.Device, left int) {
	t.Helper()
	for range left {
		if d.Barrier() != api.OK {
			t.Errorf("the fuse is shorter than %d", left)
		}
	}
	if d.Barrier() != api.ErrDown {
		t.Errorf("the fuse is longer than %d", left)
	}
}

func TestReplayOfEmptyDevices(t *testing.T) {
	for _, sectors := range []int{1, 2, 3, 38, 74, 1000} {
		for _, migration := range slices.Concat(migrations, noMigrations, []int{1 << 32, math.MaxInt - 1, math.MaxInt}) {
			expectNone(t, "zeros", flashdev.New(sectors), migration)
			expectNone(t, "noise", device(t, sectors), migration)
			expectNone(t, "ones", flashdev.Load(bytes.Repeat([]byte{255}, 64*sectors)), migration)
		}
	}
}

func TestReplayOfAllNumbersOfRecords(t *testing.T) {
	for _, migration := range migrations {
		for n := range 37 {
			for _, sectors := range []int{74, 75, 200} {
				d := device(t, sectors, first(migration, n)...)
				expectRecords(t, "the first ones", d, migration, first(migration, n))
			}
		}
	}
}

// TestReplayWithGaps lacks one record or two.
func TestReplayWithGaps(t *testing.T) {
	for migration := 1; migration <= 2; migration++ {
		for gap := range 36 {
			for _, second := range []int{gap, min(35, gap+1), 35, (gap + 18) % 36} {
				d := device(t, 80, first(migration, 36)...)
				put(t, d, at(migration, gap), nil)
				put(t, d, at(migration, second), noise(64, 3))
				expectRecords(t, "with a gap", d, migration, first(migration, min(gap, second)))
			}
		}
	}
}

// TestReplayBehindElderRecords has a half in which more or fewer records of an elder migration lie.
func TestReplayBehindElderRecords(t *testing.T) {
	for _, x := range [][2]int{{1, 3}, {2, 4}, {1, 5}, {257, 1}, {1<<32 - 3, 1<<32 - 1}, {1<<32 - 4, 1<<32 - 2}, {1, 1<<32 - 1}} {
		elder, migration := x[0], x[1]
		for _, old := range []int{0, 1, 2, 20, 35, 36} {
			d := device(t, 80, first(elder, old)...)
			for n := range 36 {
				expectRecords(t, "before elder records", d, migration, first(migration, n))
				if n > 0 {
					expectNone(t, "elder records, the first one of which is overwritten", d, elder)
				} else {
					expectRecords(t, "elder records", d, elder, first(elder, old))
				}
				expectAppend(t, "before elder records", d, of(migration, n), api.OK)
			}
			expectRecords(t, "over elder records", d, migration, first(migration, 36))
		}
	}
}

// TestReplayOfOtherMigrations has, in the place of one record, that of another migration with the same index: of the same half or of the other one.
func TestReplayOfOtherMigrations(t *testing.T) {
	for _, migration := range []int{1, 2, 3, 256, 1<<32 - 1} {
		for _, other := range []int{1, 2, 3, 4, 5, 256, 258, 1<<31 + 1, 1<<32 - 2, 1<<32 - 1} {
			if other == migration {
				continue
			}
			for index := range 36 {
				d := device(t, 80, first(migration, 36)...)
				sector := at(migration, index)
				put(t, d, sector, bytesOf(t, of(other, index), sector))
				expectRecords(t, "a record of another migration", d, migration, first(migration, index))
				expectNone(t, "the other migration", device(t, 80, first(migration, 36)...), other)
			}
		}
	}
}

// TestReplayOfTheOthersHalf has all records of a migration in the half where they do not belong.
func TestReplayOfTheOthersHalf(t *testing.T) {
	for migration := 1; migration <= 4; migration++ {
		d := device(t, 80)
		for index := range 36 {
			sector := at(migration+1, index)
			put(t, d, sector, bytesOf(t, of(migration, index), sector))
		}
		expectNone(t, "in the other half", d, migration)
		expectNone(t, "in the other half", d, migration+1)
	}
}

// TestReplayOfMisplacedRecords has records whose Index is not their place: made for the sector where they lie, and copied from elsewhere.
func TestReplayOfMisplacedRecords(t *testing.T) {
	for migration := 1; migration <= 2; migration++ {
		for place := range 36 {
			for index := range 36 {
				d := device(t, 80, first(migration, 36)...)
				n := place
				if index == place {
					n = 36
				}
				sector := at(migration, place)
				put(t, d, sector, bytesOf(t, of(migration, index), sector))
				expectRecords(t, "a misplaced record", d, migration, first(migration, n))
				put(t, d, sector, bytesOf(t, of(migration, index), at(migration, index)))
				expectRecords(t, "a copied record", d, migration, first(migration, n))
			}
			b := bytesOf(t, of(migration, place), at(migration+1, place))
			d := device(t, 80, first(migration, 36)...)
			put(t, d, at(migration, place), b)
			expectRecords(t, "a record that is made for the other half", d, migration, first(migration, place))
		}
	}
}

// TestReplayOfShiftedRecords has the journal one sector too early, and one too late.
func TestReplayOfShiftedRecords(t *testing.T) {
	for migration := 1; migration <= 2; migration++ {
		for _, shift := range []int{-1, 1} {
			d := device(t, 80)
			for index := range 36 {
				sector := at(migration, index) + shift
				put(t, d, sector, bytesOf(t, of(migration, index), sector))
			}
			expectNone(t, "shifted", d, migration)
		}
	}
}

// TestReplayOfChangedBytes changes each byte of each record.
func TestReplayOfChangedBytes(t *testing.T) {
	for migration := 1; migration <= 2; migration++ {
		d := device(t, 80, first(migration, 36)...)
		for index := range 36 {
			sector := at(migration, index)
			b := bytesOf(t, of(migration, index), sector)
			for i := range b {
				for _, change := range []byte{1, 4, 128, 255} {
					x := bytes.Clone(b)
					x[i] ^= change
					put(t, d, sector, x)
					expectRecords(t, "a changed byte", d, migration, first(migration, index))
				}
			}
			put(t, d, sector, b)
			expectRecords(t, "changed back", d, migration, first(migration, 36))
		}
	}
}

// TestReplayOfAllChanges changes each byte of a few records in each way.
func TestReplayOfAllChanges(t *testing.T) {
	for migration := 1; migration <= 2; migration++ {
		d := device(t, 80, first(migration, 4)...)
		for index := range 4 {
			sector := at(migration, index)
			b := bytesOf(t, of(migration, index), sector)
			for i := range b {
				for change := 1; change < 256; change++ {
					x := bytes.Clone(b)
					x[i] ^= byte(change)
					put(t, d, sector, x)
					expectRecords(t, "a changed byte", d, migration, first(migration, index))
				}
			}
			put(t, d, sector, b)
		}
		expectRecords(t, "changed back", d, migration, first(migration, 4))
	}
}

// TestReplayOfOtherFrames has frames of other kinds and salts in the place of a record.
func TestReplayOfOtherFrames(t *testing.T) {
	for migration := 1; migration <= 2; migration++ {
		for _, index := range []int{0, 1, 17, 35} {
			sector := at(migration, index)
			payload := bytesOf(t, of(migration, index), sector)[1:60]
			d := device(t, 80, first(migration, 36)...)
			for kind := 1; kind <= 4; kind++ {
				for _, salt := range []int{0, 1, 2, migration, index, api.MaxSeq} {
					put(t, d, sector, frameOf(t, kind, salt, sector, payload))
					n := index
					if kind == api.FramePlan && salt == 0 {
						n = 36
					}
					expectRecords(t, "a frame of a kind and salt", d, migration, first(migration, n))
				}
			}
			for _, x := range [][]byte{nil, payload[:4], payload[:18], noise(59, 5), bytes.Repeat([]byte{255}, 59), slices.Concat(payload[:58], []byte{1})} {
				put(t, d, sector, frameOf(t, api.FramePlan, 0, sector, x))
				expectRecords(t, "a frame of no plan record", d, migration, first(migration, index))
			}
		}
	}
}

// forged returns a frame of p for its sector, also if p is not valid.
func forged(t *testing.T, p api.Plan, sector int) []byte {
	t.Helper()
	b := wire.Put(nil, uint64(p.Kind), 1)
	b = wire.Put(b, uint64(p.Migration), 4)
	b = wire.Put(b, uint64(p.Index), 1)
	b = wire.Put(b, uint64(p.Tail), 6)
	b = wire.Put(b, uint64(p.Target.ID), 4)
	return frameOf(t, api.FramePlan, 0, sector, append(b, byte(p.Target.Version), 2, byte(p.Target.Regions)))
}

// TestReplayOfForgedRecords has records that are not valid, but whose checksum fits.
func TestReplayOfForgedRecords(t *testing.T) {
	for migration := 1; migration <= 2; migration++ {
		for _, index := range []int{0, 1, 17, 35} {
			d := device(t, 80, first(migration, 36)...)
			sector := at(migration, index)
			want := first(migration, 36)
			want[index].Target.RegionSectors = 4
			put(t, d, sector, forged(t, want[index], sector))
			expectRecords(t, "a forged record that is valid", d, migration, want)
			for _, spoil := range []func(p *api.Plan){
				func(p *api.Plan) { p.Kind = 0 },
				func(p *api.Plan) { p.Kind = 3 },
				func(p *api.Plan) { p.Kind = 3 - p.Kind },
				func(p *api.Plan) { p.Migration = 0 },
				func(p *api.Plan) { p.Migration += 2 },
				func(p *api.Plan) { p.Index++ },
				func(p *api.Plan) { p.Index = 36 },
				func(p *api.Plan) { p.Target.ID = 0 },
				func(p *api.Plan) { p.Target.Version = 3 },
				func(p *api.Plan) { p.Target.Regions = 3 },
			} {
				p := want[index]
				spoil(&p)
				put(t, d, sector, forged(t, p, sector))
				expectRecords(t, "a forged record", d, migration, want[:index])
			}
		}
	}
}

// TestReplayOfNoMigrations has devices with journals, and with forged records of the migration 0.
func TestReplayOfNoMigrations(t *testing.T) {
	full := device(t, 80, slices.Concat(first(1, 36), first(2, 36))...)
	greatest := device(t, 80, slices.Concat(first(1<<32-1, 36), first(1<<32-2, 36))...)
	zero := device(t, 80)
	for index := range 36 {
		p := of(2, index)
		p.Migration = 0
		put(t, zero, 2+index, forged(t, p, 2+index))
		put(t, zero, 38+index, forged(t, p, 38+index))
	}
	for _, d := range []*flashdev.Device{full, greatest, zero, nil, new(flashdev.Device), device(t, 1), dead(t, 80, first(1, 36)...)} {
		for _, migration := range noMigrations {
			if got := Replay(d, migration); got != nil {
				t.Errorf("Replay of the migration %d = %+v, want nil", migration, got)
			}
		}
		// The lowest bytes of these are those of a migration.
		for _, migration := range []int{1 << 32, 1<<32 + 1, 1<<32 + 2, 1<<33 - 2, 1<<33 - 1, 1<<48 + 1, 1<<48 + 2, math.MaxInt - 1, math.MaxInt} {
			expectNone(t, "a number beyond those of migrations", d, migration)
		}
	}
}

func TestReplayOfDevicesThatCannotBeRead(t *testing.T) {
	for _, migration := range slices.Concat(migrations, noMigrations) {
		if Replay(nil, migration) != nil {
			t.Errorf("Replay of the migration %d of nil is not nil", migration)
		}
		expectNone(t, "a zero device", new(flashdev.Device), migration)
	}
	for _, migration := range migrations {
		for _, n := range []int{0, 1, 20, 36} {
			d := dead(t, 80, first(migration, n)...)
			if Replay(d, migration) != nil {
				t.Errorf("Replay of the migration %d of a dead device is not nil", migration)
			}
			expectRecords(t, "dead, and crashed", d.Crash(nil, nil), migration, first(migration, n))
		}
	}
}

// TestReplayOfShortDevices has devices that end before the journal, within it, or with it.
func TestReplayOfShortDevices(t *testing.T) {
	for migration := 1; migration <= 4; migration++ {
		for sectors := 1; sectors <= 76; sectors++ {
			whole := device(t, 80, first(migration, 36)...).Image()
			fitting := min(36, max(0, sectors-at(migration, 0)))
			expectRecords(t, "a short device", flashdev.Load(whole[:64*sectors]), migration, first(migration, fitting))
		}
	}
}

// TestReplayReadsDirtySectors has records that were written without a Barrier.
func TestReplayReadsDirtySectors(t *testing.T) {
	for migration := 1; migration <= 2; migration++ {
		d := device(t, 80, first(migration, 3)...)
		put(t, d, at(migration, 3), bytesOf(t, of(migration, 3), at(migration, 3)))
		expectRecords(t, "the last one is dirty", d, migration, first(migration, 4))
		expectRecords(t, "the last one is lost", d.Crash(nil, nil), migration, first(migration, 3))
		put(t, d, at(migration, 1), nil)
		expectRecords(t, "the second one is overwritten", d, migration, first(migration, 1))
		expectRecords(t, "the second one is not lost", d.Crash(nil, nil), migration, first(migration, 3))
		expectRecords(t, "the last one is kept", d.Crash([]bool{false, true}, nil), migration, first(migration, 4))
	}
}

// TestReplayOnlyReads has a device without power left, and dirty sectors.
func TestReplayOnlyReads(t *testing.T) {
	d := device(t, 80, slices.Concat(first(1, 5), first(2, 35))...)
	put(t, d, 73, bytesOf(t, of(2, 35), 73))
	put(t, d, 75, []byte("data"))
	image, lost := d.Image(), d.Crash(nil, nil).Image()
	d.Fuse(0)
	for range 3 {
		expectRecords(t, "without power left", d, 1, first(1, 5))
		expectRecords(t, "without power left", d, 2, first(2, 36))
		expectNone(t, "without power left", d, 3)
		expectNone(t, "without power left", d, 0)
	}
	if !bytes.Equal(d.Image(), image) || !bytes.Equal(d.Crash(nil, nil).Image(), lost) || d.Dirty() != 2 || d.Writes() != 2 || d.Dead() {
		t.Error("Replay changes the device")
	}
}

// TestSuccessiveMigrations has one migration after the other, each with another number of records: the one before remains whole.
func TestSuccessiveMigrations(t *testing.T) {
	for _, start := range []int{1, 2, 255, 256, 65535, 1<<32 - 41} {
		d := device(t, 80)
		before := 0
		for i := range 40 {
			migration := start + i
			count := (7*i + 5) % 37
			for n := range count {
				expectAppend(t, "one after the other", d, of(migration, n), api.OK)
				expectRecords(t, "the present one", d, migration, first(migration, n+1))
				expectRecords(t, "the one before", d, migration-1, first(migration-1, before))
			}
			before = count
		}
	}
}

// TestTwoMigrationsByTurns has records of two successive migrations, by turns.
func TestTwoMigrationsByTurns(t *testing.T) {
	for _, migration := range []int{1, 2, 257, 1<<32 - 2} {
		d := device(t, 80)
		for n := range 36 {
			expectAppend(t, "by turns", d, of(migration, n), api.OK)
			expectRecords(t, "the first one", d, migration, first(migration, n+1))
			expectRecords(t, "the second one", d, migration+1, first(migration+1, n))
			expectAppend(t, "by turns", d, of(migration+1, n), api.OK)
			expectRecords(t, "the first one", d, migration, first(migration, n+1))
			expectRecords(t, "the second one", d, migration+1, first(migration+1, n+1))
		}
	}
}

// TestCrashes crashes in the append of the record n, with every fuse and every set of dirty sectors that survive: Replay finds n or n + 1 records, and n + 1 after OK.
func TestCrashes(t *testing.T) {
	for migration := 3; migration <= 4; migration++ {
		for n := range 36 {
			for fuse := range 4 {
				for set := range 16 {
					for _, old := range []int{0, 36} {
						d := device(t, 80, first(migration-2, old)...)
						for index := range n {
							expectAppend(t, "before the crash", d, of(migration, index), api.OK)
						}
						put(t, d, 1, []byte("superblock"))
						put(t, d, 74, []byte("data"))
						put(t, d, 79, []byte("data"))
						d.Fuse(fuse)
						e := Append(d, of(migration, n))
						if (e == api.OK) != (fuse >= 2) {
							t.Errorf("Append with the fuse %d: error %d", fuse, e)
						}
						keep := []bool{set&1 != 0, set&2 != 0, set&4 != 0, set&8 != 0}
						want := n
						if e == api.OK || fuse == 1 && keep[1] { // of the dirty sectors, that of the record is the second one
							want = n + 1
						}
						expectRecords(t, "after a crash", d.Crash(keep, nil), migration, first(migration, want))
					}
				}
			}
		}
	}
}

// TestTornCrashes tears the new record: it is not found, unless the bytes that are lost are those that were there.
func TestTornCrashes(t *testing.T) {
	for migration := 3; migration <= 4; migration++ {
		for _, old := range []int{0, 36} {
			for n := range 36 {
				d := device(t, 80, slices.Concat(first(migration-2, old), first(migration, n))...)
				d.Fuse(1)
				expectAppend(t, "without power", d, of(migration, n), api.ErrDown)
				for torn := 1; torn < 64; torn++ {
					after := d.Crash(nil, []api.Tear{{K: 0, N: torn}})
					want := n
					if bytes.Equal(after.Image(), d.Image()) {
						want = n + 1
					}
					expectRecords(t, "after a tear", after, migration, first(migration, want))
				}
			}
		}
	}
}

// TestManyCrashes appends record after record, migration after migration, and goes on with what each crash leaves.
func TestManyCrashes(t *testing.T) {
	chances := noise(9000, 11)
	d := flashdev.New(76)
	migration, n, before := 1, 0, 0
	for i := range 3000 {
		fuse, keep := int(chances[3*i]%4), chances[3*i+1]%2 == 1
		d.Fuse(fuse)
		e := Append(d, of(migration, n))
		if (e == api.OK) != (fuse >= 2) {
			t.Fatalf("Append with the fuse %d: error %d", fuse, e)
		}
		if e == api.OK || fuse == 1 && keep {
			n++
		}
		d = d.Crash([]bool{keep}, nil)
		expectRecords(t, "the present migration", d, migration, first(migration, n))
		expectRecords(t, "the one before", d, migration-1, first(migration-1, before))
		if n == 36 || n > 0 && chances[3*i+2]%32 == 0 {
			migration, n, before = migration+1, 0, n
		}
	}
	if migration < 20 {
		t.Errorf("only %d migrations", migration)
	}
}

func TestResultsOfReplayShareNoMemory(t *testing.T) {
	for migration := 1; migration <= 2; migration++ {
		for _, n := range []int{1, 2, 3, 20, 36} {
			d := device(t, 80, first(migration, n)...)
			image := d.Image()
			one := Replay(d, migration)
			other := Replay(d, migration)
			clear(other[:cap(other)])
			if !slices.Equal(one, first(migration, n)) {
				t.Errorf("a result of Replay shares memory with another one: %+v", one)
			}
			clear(one[:cap(one)])
			if !bytes.Equal(d.Image(), image) {
				t.Error("a result of Replay shares memory with the device")
			}
			expectRecords(t, "after a result has changed", d, migration, first(migration, n))
			last := Replay(d, migration)
			put(t, d, at(migration, 0), nil)
			if !slices.Equal(last, first(migration, n)) {
				t.Errorf("a result of Replay changes with the device: %+v", last)
			}
		}
	}
}

// TestCallsDependOnNothingElse has two devices, with calls on one between those on the other.
func TestCallsDependOnNothingElse(t *testing.T) {
	a, b := flashdev.New(80), flashdev.New(80)
	for n := range 36 {
		expectAppend(t, "one device", a, of(5, n), api.OK)
		expectRecords(t, "the other device", b, 5, nil)
		expectRecords(t, "the other device", b, 7, first(7, n))
		expectAppend(t, "the other device", b, of(7, n), api.OK)
		expectRecords(t, "one device", a, 5, first(5, n+1))
		Append(nil, of(5, n))
		Append(a, api.Plan{})
		Replay(nil, 5)
		Replay(a, 6)
		Sector(5, n)
		expectRecords(t, "one device, once more", a, 5, first(5, n+1))
	}
}
