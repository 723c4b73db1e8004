package recovery

import (
	"encoding/hex"
	"fmt"
	"math"
	"slices"
	"testing"

	"flashcache/api"
	"flashcache/flashdev"
	"flashcache/header"
	"flashcache/plan"
	"flashcache/planlog"
	"flashcache/region"
	"flashcache/superblock"
	"flashcache/superpair"
)

// goodNows and badNows are times around the limits.
var (
	goodNows = []int{0, 1, 5, 1 << 32, 1<<39 - 1, 1 << 39}
	badNows  = []int{math.MinInt, math.MinInt + 1, -1 << 39, -2, -1, 1<<39 + 1, 1 << 40, math.MaxInt - 1, math.MaxInt}
)

// small is a layout for tests on devices of a hundred sectors.
var small = layout(3, 1, 4, 6)

// sync stands for a call of Sync in a list of records.
var sync = api.Record{}

func layout(id, version, sectors, regions int) api.Layout {
	return api.Layout{ID: id, Version: version, RegionSectors: sectors, Regions: regions}
}

func stable(tail, now int, target api.Layout) api.Super {
	return api.Super{Gen: 3, Phase: api.PhaseStable, Migration: 7, Tail: tail, Now: now, Target: target}
}

func migrating(tail, now int, target, home api.Layout) api.Super {
	return api.Super{Gen: 4, Phase: api.PhaseMigrating, Migration: 8, Tail: tail, Now: now, Target: target, Home: home, Foreign: []api.Layout{home}}
}

// returning has a Target that is home under the ID id.
func returning(tail, now, id int, home, second api.Layout) api.Super {
	target := home
	target.ID = id
	return api.Super{Gen: 5, Phase: api.PhaseReturning, Migration: 9, Tail: tail, Now: now, Target: target, Home: home, Foreign: []api.Layout{home, second}}
}

// noise returns n bytes without a visible pattern, the same ones each time.
func noise(n int, seed uint32) []byte {
	b := make([]byte, n)
	for i := range b {
		seed = seed*1664525 + 1013904223
		b[i] = byte(seed >> 24)
	}
	return b
}

// device returns a device with a superblock, and noise in its other sectors.
func device(t *testing.T, sectors int, s api.Super) *flashdev.Device {
	t.Helper()
	d := flashdev.Load(noise(64*sectors, 1))
	publish(t, d, s)
	return d
}

func publish(t *testing.T, d *flashdev.Device, s api.Super) {
	t.Helper()
	if e := superpair.Publish(d, s); e != api.OK {
		t.Fatalf("no superblock to test with: %+v, error %d", s, e)
	}
}

// overwrite writes b to a sector of d, or ends the test if there was an error before.
func overwrite(t *testing.T, d *flashdev.Device, i int, b []byte, e api.Errno) {
	t.Helper()
	if e != api.OK || d.Write(i, b) != api.OK {
		t.Fatalf("nothing to test with in the sector %d: error %d", i, e)
	}
}

// kill makes d dead.
func kill(d *flashdev.Device) *flashdev.Device {
	d.Fuse(0)
	d.Barrier()
	return d
}

// at returns a region with the Tail 0 and the Now 0.
func at(l api.Layout, slot, seq int) api.Region {
	return api.Region{Header: api.Header{Version: l.Version, Slot: slot, Layout: l.ID, Seq: seq}, Layout: l}
}

// with returns r with another Tail and Now.
func with(r api.Region, tail, now int) api.Region {
	r.Header.Tail, r.Header.Now = tail, now
	return r
}

// put writes the headers of regions, and leaves their data as it is.
func put(t *testing.T, d *flashdev.Device, all ...api.Region) {
	t.Helper()
	for _, r := range all {
		i := first(r.Layout, r.Header.Slot)
		b, e := header.Encode(r.Header, i)
		overwrite(t, d, i, b, e)
	}
}

// write writes a region with records, which are synchronized at the end.
func write(t *testing.T, d *flashdev.Device, r api.Region, records ...api.Record) {
	t.Helper()
	open, e := region.Open(d, r.Layout, r.Header)
	for _, x := range append(records, sync) {
		switch {
		case e != api.OK:
			t.Fatalf("no region to test with: %+v, error %d", r, e)
		case x.Kind == 0:
			e = open.Sync()
		default:
			_, _, e = open.Append(x)
		}
	}
}

// journal appends plan records of a migration with these Tails to the journal.
func journal(t *testing.T, d *flashdev.Device, migration int, target api.Layout, tails ...int) {
	t.Helper()
	for i, tail := range tails {
		p := api.Plan{Kind: api.PlanProgress, Migration: migration, Index: i, Tail: tail, Target: target}
		if i == 0 {
			p.Kind = api.PlanBegin
		}
		if e := planlog.Append(d, p); e != api.OK {
			t.Fatalf("no plan record to test with: %+v, error %d", p, e)
		}
	}
}

func value(key, value string, expiry int) api.Record {
	return api.Record{Kind: api.KindValue, Key: []byte(key), Value: []byte(value), Expiry: expiry}
}

func tombstone(key string) api.Record {
	return api.Record{Kind: api.KindTombstone, Key: []byte(key)}
}

func flush() api.Record {
	return api.Record{Kind: api.KindFlush}
}

// pair is a key and its entry.
func pair(key string, seq, off, n, expiry int) api.Pair {
	return api.Pair{Key: key, Entry: api.Entry{Seq: seq, Off: off, Len: n, Expiry: expiry}}
}

func isSame(a, b State) bool {
	return superblock.Equal(a.Super, b.Super) && slices.Equal(a.Regions, b.Regions) && slices.Equal(a.Pairs, b.Pairs) &&
		a.Tail == b.Tail && a.Next == b.Next && a.Now == b.Now && a.Plans == b.Plans
}

// show shortens what an error message shows of a state.
func show(s State) string {
	text := fmt.Sprintf("{Gen %d, Phase %d, Tail %d, Next %d, Now %d, Plans %d, Regions", s.Super.Gen, s.Super.Phase, s.Tail, s.Next, s.Now, s.Plans)
	for _, r := range s.Regions {
		text += fmt.Sprintf(" %d(%d/%d)", r.Header.Seq, r.Layout.ID, r.Header.Slot)
	}
	text += ", Pairs"
	for _, p := range s.Pairs[:min(len(s.Pairs), 20)] {
		text += fmt.Sprintf(" %.20q%v", p.Key, p.Entry)
	}
	return text + "}"
}

// expect ends the test unless Load returns want and OK.
func expect(t *testing.T, what string, d *flashdev.Device, now int, want State) {
	t.Helper()
	if got, e := Load(d, now); e != api.OK || !isSame(got, want) {
		t.Fatalf("%s: Load(.., %d) = %s, error %d, want %s", what, now, show(got), e, show(want))
	}
}

// expectError ends the test unless Load returns the zero State and e.
func expectError(t *testing.T, what string, d *flashdev.Device, now int, e api.Errno) {
	t.Helper()
	if got, is := Load(d, now); is != e || !isSame(got, State{}) {
		t.Fatalf("%s: Load(.., %d) = %s, error %d, want error %d", what, now, show(got), is, e)
	}
}

// expectSlow ends the test unless Load returns what slowLoad does, and returns this state.
func expectSlow(t *testing.T, what string, d *flashdev.Device, now int) State {
	t.Helper()
	want, e := slowLoad(d, now)
	if e != api.OK {
		expectError(t, what, d, now, e)
	} else {
		expect(t, what, d, now, want)
	}
	return want
}

// expectNumbers ends the test unless Load returns these numbers, and the same as slowLoad.
func expectNumbers(t *testing.T, what string, d *flashdev.Device, tail, next, now int) {
	t.Helper()
	s := expectSlow(t, what, d, 0)
	if s.Tail != tail || s.Next != next || s.Now != now {
		t.Fatalf("%s: Load returns %s, want Tail %d, Next %d, Now %d", what, show(s), tail, next, now)
	}
}

// expectLive ends the test unless these are the live regions, and all other results are those of slowLoad.
func expectLive(t *testing.T, what string, d *flashdev.Device, want ...api.Region) {
	t.Helper()
	if s := expectSlow(t, what, d, 0); !slices.Equal(s.Regions, want) {
		t.Fatalf("%s: Load returns %s, want the regions %s", what, show(s), show(State{Regions: want}))
	}
}

// known has devices whose sectors another program wrote, and what is live on them.
var known = []struct {
	sectors  int
	contents map[int]string
	now      int
	want     State
}{
	{ // a migration is on its way back, and the older superblock is the one before
		114,
		map[int]string{
			0:  "03000000000603000000090000000000140000000064000000050102040000000301020402000000040203050000000000000000000000000000000091ab13ec",
			1:  "0300000000050200000009000000000013000000005a000000040203050000000301020401000000000000000000000000000000000000000000000041a04f60",
			2:  "0401000000090000000000001400000004020305000000000000000000000000000000000000000000000000000000000000000000000000000000002bd10b7d",
			3:  "040200000009010000000000150000000402030500000000000000000000000000000000000000000000000000000000000000000000000000000000a90efc40",
			4:  "040200000007020000000000280000000301020400000000000000000000000000000000000000000000000000000000000000000000000000000000c5228f29",
			38: "040100000008000000000000320000000301020400000000000000000000000000000000000000000000000000000000000000000000000000000000ad854b8e",
			74: "010100000000050000000000180000000000160000000069000000000000000000000000000000000000000000000000000000000000000000000000f46d471d",
			75: "02a1010100000000010000008247bc0e716434a10101000000000100000083a8af9b4f653500000000000000000000000000000000000000000000000b705ca2",
			76: "02a10102000000002b0000000069c5185e62637878787878787878787878787878787878787878787878787878787878787878787878787878787878f45282ec",
			77: "0278780000000000000000000000000000000000000000000000000000000000000000000000000000000000000000000000000000000000000000000bbadfc3",
			78: "0101010000000300000000001600000000001100000000500000000000000000000000000000000000000000000000000000000000000000000000007293bb03",
			79: "02a10101000000000100000000a8053dc46131a101020000000003000001f4dec2d0c7626374776f0000000000000000000000000000000000000000095180f4",
			80: "02a101010000000000000000827a6057ba66000000000000000000000000000000000000000000000000000000000000000000000000000000000000b6252b39",
			82: "01020100000004000000000017000000000012000000005f000000000000000000000000000000000000000000000000000000000000000000000000c09aa667",
			83: "02a20120000000000000000000a1f18d3661a2011000000100ffffffffff49e09d5e633300000000000000000000000000000000000000000000000057b49b8f",
			86: "0101030000000300000000001500000000001000000000820000000000000000000000000000000000000000000000000000000000000000000000000b5376b7",
			87: "02a10101000000000400000000c571aaa27a64656164000000000000000000000000000000000000000000000000000000000000000000000000000088546412",
		},
		60,
		State{
			Super: api.Super{
				Gen: 6, Phase: api.PhaseReturning, Migration: 9, Tail: 20, Now: 100,
				Target: layout(5, 1, 4, 4), Home: layout(3, 1, 4, 4), Foreign: []api.Layout{layout(3, 1, 4, 4), layout(4, 2, 8, 5)},
			},
			Regions: []api.Region{
				with(at(layout(3, 1, 4, 4), 1, 22), 17, 80),
				with(at(layout(4, 2, 8, 5), 1, 23), 18, 95),
				with(at(layout(5, 1, 4, 4), 0, 24), 22, 105),
			},
			Tail: 22, Next: 25, Now: 130, Plans: 2,
			Pairs: []api.Pair{pair("bc", 24, 59, 61, 0), pair("c", 23, 17, 18, 1<<40-1), pair("e", 24, 18, 18, 131)},
		},
	},
	{ // all numbers are near their limits, and a plan record does not count
		82,
		map[int]string{
			0:  "0300000000040100000002fffffffffffd8000000000ffffffff020104000000000000000000000000000000000000000000000000000000000000001b174769",
			1:  "0300000000070100000004fffffffffffd4000000000ffffffff02010400000000000000000000000000000000000000000000000000000000000000b3fa8508",
			38: "04010000000400ffffffffffffffffffff02010400000000000000000000000000000000000000000000000000000000000000000000000000000000bfbd5145",
			74: "010200fffffffffffffffffffefffffffffffd0000000005000000000000000000000000000000000000000000000000000000000000000000000000a02f9464",
			75: "02a20030000000000000000000b424ba7ca201100000000040000000004021d8336b00000000000000000000000000000000000000000000000000006cba033a",
			76: "010201fffffffffffffffffffc0000000000010000000001000000000000000000000000000000000000000000000000000000000000000000000000d8caf3c3",
			77: "02a202100000000000000000002baed8fd6e6f00000000000000000000000000000000000000000000000000000000000000000000000000000000008679cc8f",
			78: "010202fffffffffffffffffffdfffffffffffc00000000030000000000000000000000000000000000000000000000000000000000000000000000003d5084ec",
			79: "02a20310000001000000000000eacd62fb6f6c6431a20410000001000000000000706714ee6b6570743200000000000000000000000000000000000019dca4b1",
			80: "010203ffffffffffffffffffff0000000000003fffffffff000000000000000000000000000000000000000000000000000000000000000000000000c012fc05",
			81: "02a20110000001004000000001aa7595ce6b76a20110000001000000000000561e56b86c770000000000000000000000000000000000000000000000c429916e",
		},
		0,
		State{
			Super: api.Super{Gen: 7, Phase: api.PhaseStable, Migration: 4, Tail: 1<<48 - 3, Now: 1 << 38, Target: layout(1<<32-1, 2, 2, 4)},
			Regions: []api.Region{
				with(at(layout(1<<32-1, 2, 2, 4), 2, 1<<48-3), 1<<48-4, 3),
				with(at(layout(1<<32-1, 2, 2, 4), 0, 1<<48-2), 1<<48-3, 5),
				with(at(layout(1<<32-1, 2, 2, 4), 3, 1<<48-1), 0, 1<<38-1),
			},
			Tail: 1<<48 - 3, Next: 1 << 48, Now: 1 << 38,
			Pairs: []api.Pair{pair("k", 1<<48-1, 0, 18, 1<<38+1), pair("l", 1<<48-1, 18, 18, 0)},
		},
	},
}

func TestKnownDevices(t *testing.T) {
	for _, x := range known {
		for _, d := range []*flashdev.Device{flashdev.New(x.sectors), flashdev.Load(noise(64*x.sectors, 5))} {
			for i, s := range x.contents {
				b, err := hex.DecodeString(s)
				if err != nil || len(b) != 64 {
					t.Fatal(len(b), err)
				}
				overwrite(t, d, i, b, api.OK)
			}
			expect(t, "a known device", d, x.now, x.want)
			expectSlow(t, "a known device", d, x.now)
		}
	}
}

func TestExampleOfTheChapter(t *testing.T) {
	for _, sectors := range []int{1, 2, 3, 74, 98, 1000} {
		expectError(t, "an empty device", flashdev.New(sectors), 0, api.ErrForm)
	}
	for _, tail := range []int{0, 1, 2, 5, 1 << 47, 1<<48 - 1} {
		d := flashdev.New(end(small))
		publish(t, d, stable(tail, 0, small))
		expect(t, "no regions", d, 0, State{Super: stable(tail, 0, small), Tail: tail, Next: max(1, tail)})
	}
}

// TestErrors has devices of all kinds, for times of all kinds.
func TestErrors(t *testing.T) {
	wide := layout(4, 2, 8, 5) // ends 16 sectors behind small
	torn := device(t, 98, stable(1, 0, small))
	overwrite(t, torn, 1, sector(torn, 1)[:10], api.OK)
	misplaced, e := superblock.Encode(stable(1, 0, small), 0)
	other := flashdev.New(98)
	overwrite(t, other, 0, misplaced, e)
	two := stable(1, 0, small)
	two.Gen = 2
	alone, e := superblock.Encode(two, 0)
	one := flashdev.New(1)
	overwrite(t, one, 0, alone, e)
	older, newer := device(t, 98, migrating(1, 0, small, wide)), device(t, 98, stable(1, 0, small))
	publish(t, older, api.Super{Gen: 5, Phase: api.PhaseStable, Target: small})
	publish(t, newer, api.Super{Gen: 4, Phase: api.PhaseStable, Target: wide})
	for _, x := range []struct {
		what string
		d    *flashdev.Device
		e    api.Errno
	}{
		{"no device", nil, api.ErrDown},
		{"a dead device", kill(device(t, 98, stable(1, 0, small))), api.ErrDown},
		{"a dead device without superblock", kill(flashdev.New(98)), api.ErrDown},
		{"a dead device of one sector", kill(flashdev.New(1)), api.ErrDown},
		{"a dead device that is too short", kill(device(t, 97, stable(1, 0, small))), api.ErrDown},
		{"an empty device", flashdev.New(98), api.ErrForm},
		{"noise", flashdev.Load(noise(64*98, 2)), api.ErrForm},
		{"a superblock of ten bytes", torn, api.ErrForm},
		{"a superblock in the other sector", other, api.ErrForm},
		{"one empty sector", flashdev.New(1), api.ErrForm},
		{"one sector with a superblock", one, api.ErrForm},
		{"two empty sectors", flashdev.New(2), api.ErrForm},
		{"a superblock alone", device(t, 2, stable(1, 0, small)), api.ErrForm},
		{"no data area", device(t, 74, stable(1, 0, small)), api.ErrForm},
		{"a Target that does not fit", device(t, 97, stable(1, 0, small)), api.ErrForm},
		{"a Target that does not fit, beside a Home that does", device(t, 113, migrating(1, 0, wide, small)), api.ErrForm},
		{"a Home that does not fit", device(t, 113, migrating(1, 0, small, wide)), api.ErrForm},
		{"a second foreign layout that does not fit", device(t, 113, returning(1, 0, 5, small, wide)), api.ErrForm},
		{"a second foreign layout that fits alone", device(t, 113, returning(1, 0, 5, wide, small)), api.ErrForm},
		{"the newer superblock does not fit", newer, api.ErrForm},
		{"only the older superblock does not fit", older, api.OK},
		{"a Target that fits", device(t, 98, stable(1, 0, small)), api.OK},
		{"two layouts that fit", device(t, 114, migrating(1, 0, wide, small)), api.OK},
		{"a Home that fits", device(t, 114, migrating(1, 0, small, wide)), api.OK},
		{"three layouts that fit", device(t, 114, returning(1, 0, 5, small, wide)), api.OK},
	} {
		for _, now := range badNows {
			if x.e == api.ErrDown {
				expectError(t, x.what, x.d, now, api.ErrDown)
			} else {
				expectError(t, x.what, x.d, now, api.ErrRange)
			}
		}
		for _, now := range goodNows {
			if x.e != api.OK {
				expectError(t, x.what, x.d, now, x.e)
			} else if s := expectSlow(t, x.what, x.d, now); s.Now != now || s.Next != 1 {
				t.Fatalf("%s: Load(.., %d) = %s", x.what, now, show(s))
			}
		}
	}
}

// TestLayoutsThatJustFit has layouts of all sizes, on devices that end with them, and one sector before.
func TestLayoutsThatJustFit(t *testing.T) {
	tiny := layout(9, 1, 2, 4)
	for k := range 11 {
		for regions := 4; regions <= 16; regions++ {
			l := layout(4, 1+k%2, 2<<k, regions)
			for _, s := range []api.Super{stable(1, 0, l), migrating(1, 0, l, tiny), migrating(1, 0, tiny, l), returning(1, 0, 5, tiny, l), returning(1, 0, 5, l, tiny)} {
				d := flashdev.New(end(l))
				publish(t, d, s)
				expect(t, "just enough sectors", d, 0, State{Super: s, Tail: 1, Next: 1})
				if l.RegionSectors*l.Regions > 8 {
					d = flashdev.New(end(l) - 1)
					publish(t, d, s)
					expectError(t, "a sector is missing", d, 0, api.ErrForm)
				}
			}
		}
	}
}

func TestTheLargestDevice(t *testing.T) {
	l := layout(1, 2, 2048, 16)
	d := flashdev.New(1 << 20)
	publish(t, d, stable(2, 0, l))
	write(t, d, at(l, 15, 5), value("a", "", 0))
	write(t, d, at(l, 0, 4), value("b", "", 0))
	expect(t, "two regions", d, 1, State{
		Super: stable(2, 0, l), Regions: []api.Region{at(l, 0, 4), at(l, 15, 5)}, Tail: 2, Next: 6, Now: 1,
		Pairs: []api.Pair{pair("a", 5, 0, 17, 0), pair("b", 4, 0, 17, 0)},
	})
}

// TestTail has each Tail that counts as the greatest one in turn: that of the superblock, of three plan records, of a live region in each layout, and of one that is hidden.
func TestTail(t *testing.T) {
	home, target := layout(3, 1, 4, 6), layout(4, 2, 8, 5)
	for greatest := range 8 {
		for _, more := range []int{1, 2, 10} {
			tails := slices.Repeat([]int{20}, 8)
			tails[greatest] += more
			d := device(t, end(target), migrating(tails[0], 0, target, home))
			journal(t, d, 8, target, tails[1], tails[2], tails[3])
			hidden := with(at(home, 5, 50), tails[6], 0)
			live := []api.Region{with(at(home, 0, 40), tails[4], 0), with(at(target, 1, 45), tails[5], 0), with(at(target, 2, 60), tails[7], 0)}
			put(t, d, live...)
			put(t, d, hidden)
			what := fmt.Sprint("the greatest Tail is the one with the index ", greatest)
			expectNumbers(t, what, d, 20+more, 61, 0)
			expectLive(t, what, d, live...)
		}
	}
}

// TestTailOfDeadRegions has all Tails that two regions and the superblock can have: what is dead because of one of them counts, too.
func TestTailOfDeadRegions(t *testing.T) {
	d := device(t, end(small), stable(0, 0, small))
	dead := 0
	for super := range 9 {
		publish(t, d, stable(super, 0, small))
		for a := range 6 {
			for b := range 8 {
				put(t, d, with(at(small, 2, 5), a, 0), with(at(small, 0, 7), b, 0))
				tail := max(super, a, b)
				expectNumbers(t, "two regions", d, tail, max(8, tail), 0)
				switch {
				case tail <= 5:
					expectLive(t, "both are live", d, with(at(small, 2, 5), a, 0), with(at(small, 0, 7), b, 0))
				case tail <= 7:
					expectLive(t, "one is dead", d, with(at(small, 0, 7), b, 0))
					dead++
				default:
					expectLive(t, "both are dead", d)
				}
			}
		}
	}
	if dead == 0 {
		t.Error("no region is dead")
	}
}

// TestPlans has all numbers of plan records, in all phases, for migrations with odd and even numbers.
func TestPlans(t *testing.T) {
	home, target := layout(3, 1, 4, 6), layout(4, 2, 8, 5)
	for _, s := range []api.Super{stable(5, 0, target), migrating(5, 0, target, home), returning(5, 0, 6, home, target)} {
		for _, migration := range []int{1, 2, 255, 256, 1<<32 - 2, 1<<32 - 1} {
			s.Migration = migration
			d := device(t, end(target), s)
			for n := range 37 {
				want := State{Super: s, Tail: 5, Next: 5, Plans: n}
				if n > 0 {
					want.Tail, want.Next = 9+n, 9+n
				}
				if s.Phase == api.PhaseStable {
					want.Tail, want.Next, want.Plans = 5, 5, 0
				}
				expect(t, fmt.Sprint(n, " plan records"), d, 0, want)
				p := api.Plan{Kind: api.PlanProgress, Migration: migration, Index: n, Tail: 10 + n, Target: target}
				if n == 0 {
					p.Kind = api.PlanBegin
				}
				if n < 36 && planlog.Append(d, p) != api.OK {
					t.Fatal("no plan record to test with")
				}
			}
		}
	}
	s := stable(5, 0, target)
	s.Migration = 0
	expect(t, "no migration", device(t, end(target), s), 0, State{Super: s, Tail: 5, Next: 5})
}

// TestPlansOfOtherMigrations has records before and behind those of this migration, and in the other half of the journal.
func TestPlansOfOtherMigrations(t *testing.T) {
	home, target := layout(3, 1, 4, 6), layout(4, 2, 8, 5)
	for _, s := range []api.Super{migrating(5, 0, target, home), returning(5, 0, 6, home, target)} {
		m := s.Migration
		for _, n := range []int{0, 1, 2, 5} {
			d := device(t, end(target), s)
			journal(t, d, m-2, target, slices.Repeat([]int{90}, 20)...)
			journal(t, d, m-1, target, slices.Repeat([]int{91}, 20)...)
			journal(t, d, m+1, target, slices.Repeat([]int{92}, 5)...)
			journal(t, d, m, target, []int{6, 30, 7, 8, 9}[:n]...)
			want := State{Super: s, Tail: []int{5, 6, 30, 30, 30, 30}[n], Plans: n}
			want.Next = want.Tail
			expect(t, "records of other migrations", d, 0, want)
			late := api.Plan{Kind: api.PlanProgress, Migration: m, Index: 7, Tail: 95, Target: target}
			if planlog.Append(d, late) != api.OK {
				t.Fatal("no plan record to test with")
			}
			expect(t, "a record behind a gap", d, 0, want)
		}
	}
}

// TestTargetsOfPlans has records of this migration with other targets, which count all the same: the direction has changed, or nobody knows why.
func TestTargetsOfPlans(t *testing.T) {
	home, target := layout(3, 1, 4, 6), layout(4, 2, 8, 5)
	s := migrating(5, 0, target, home)
	d := device(t, end(target), s)
	for i, l := range []api.Layout{target, home, layout(77, 1, 2048, 16)} {
		p := api.Plan{Kind: min(api.PlanBegin+i, api.PlanProgress), Migration: 8, Index: i, Tail: 6 + i, Target: l}
		b, e := plan.Encode(p, 38+i)
		overwrite(t, d, 38+i, b, e)
		expect(t, "plan records", d, 0, State{Super: s, Tail: 6 + i, Next: 6 + i, Plans: i + 1})
	}
}

// TestNext has Tails and Seqs around each other, and the greatest ones that there are.
func TestNext(t *testing.T) {
	numbers := []int{0, 1, 2, 7, 8, 1 << 32, 1<<48 - 2, 1<<48 - 1}
	for _, tail := range numbers {
		d := device(t, end(small), stable(tail, 0, small))
		expectNumbers(t, "no candidates", d, tail, max(1, tail), 0)
		for _, a := range numbers[1:] {
			put(t, d, at(small, 4, a))
			expectNumbers(t, "one candidate", d, tail, max(a+1, tail), 0)
			for _, b := range numbers[1:] {
				put(t, d, at(small, 1, b))
				expectNumbers(t, "two candidates", d, tail, max(a+1, b+1, tail), 0)
			}
			overwrite(t, d, first(small, 1), nil, api.OK)
		}
	}
	home, target := layout(3, 1, 4, 6), layout(4, 2, 8, 5)
	d := device(t, end(target), migrating(3, 0, target, home))
	put(t, d, at(home, 1, 9), at(target, 0, 8))
	expectNumbers(t, "a foreign region is the youngest", d, 3, 10, 0)
	journal(t, d, 8, target, 15)
	expectNumbers(t, "a plan record has a greater Tail", d, 15, 15, 0)
}

// TestNow has each time that counts as the greatest one in turn: that of the superblock, of a live region in each layout, of a dead one, and of a hidden one.
func TestNow(t *testing.T) {
	home, target := layout(3, 1, 4, 6), layout(4, 2, 8, 5)
	for greatest := range 5 {
		for _, more := range []int{1, 1 << 20, 1<<39 - 20} {
			nows := slices.Repeat([]int{20}, 5)
			nows[greatest] += more
			d := device(t, end(target), migrating(30, nows[0], target, home))
			live := []api.Region{with(at(home, 0, 40), 0, nows[1]), with(at(target, 2, 60), 0, nows[2])}
			put(t, d, live...)
			put(t, d, with(at(home, 1, 29), 0, nows[3]), with(at(home, 5, 50), 0, nows[4]))
			what := fmt.Sprint("the greatest Now is the one with the index ", greatest)
			expectNumbers(t, what, d, 30, 61, 20+more)
			expectLive(t, what, d, live...)
			want, _ := slowLoad(d, 0)
			for _, now := range []int{0, 1, 19, 20, 20 + more - 1, 20 + more} {
				expect(t, "a now that is not greater", d, now, want)
			}
			for _, now := range []int{min(20+more+1, 1<<39), 1 << 39} {
				want.Now = now
				expect(t, "a now that is not less", d, now, want)
			}
		}
	}
}

func TestOtherSuperblocks(t *testing.T) {
	older, newer := stable(9, 9, layout(3, 1, 4, 6)), stable(2, 2, layout(4, 1, 4, 6))
	older.Gen, newer.Gen = 6, 7
	d := device(t, 98, older)
	publish(t, d, newer)
	put(t, d, at(older.Target, 0, 12), with(at(newer.Target, 1, 5), 1, 1))
	live := with(at(newer.Target, 1, 5), 1, 1)
	expect(t, "two superblocks", d, 0, State{Super: newer, Regions: []api.Region{live}, Tail: 2, Next: 6, Now: 2})
	older.Gen = 8
	publish(t, d, older)
	expect(t, "the other one is newer", d, 0, State{Super: older, Regions: []api.Region{at(older.Target, 0, 12)}, Tail: 9, Next: 13, Now: 9})
}
