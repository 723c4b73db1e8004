package plan

import (
	"bytes"
	"encoding/hex"
	"math"
	"slices"
	"testing"

	"flashcache/api"
	"flashcache/crc"
)

// used is the number of bytes of a payload that a plan record takes.
const used = 19

// sectors are numbers of sectors, the smallest and the greatest one among them.
var sectors = []int{0, 1, 2, 3, 37, 38, 73, 74, 255, 256, 258, 65535, 65536, 65537, 1 << 19, 0x90A0B, 1048574, 1048575}

// noSectors are numbers of no sector. Some of them have the same lowest bytes as one.
var noSectors = []int{-1, -2, -74, -1 << 20, -1 << 32, math.MinInt, math.MinInt + 1, 1048576, 1048577, 1 << 21, 1<<24 + 1, 1 << 31, 1<<32 - 1, 1 << 32, 1<<32 + 2, math.MaxInt}

// powers are the numbers of sectors that a region may have.
var powers = []int{2, 4, 8, 16, 32, 64, 128, 256, 512, 1024, 2048}

// known has plan records and their sectors, which another program made.
var known = []struct {
	p      api.Plan
	sector int
	want   string
}{
	{begin(1, 0, layout(1, 1, 2, 4)), 2, "0401000000010000000000000000000001010104000000000000000000000000000000000000000000000000000000000000000000000000000000005bafa74b"},
	{begin(1, 5, layout(4, 1, 4, 6)), 2, "040100000001000000000000050000000401020600000000000000000000000000000000000000000000000000000000000000000000000000000000b4704c3d"},
	{progress(1, 1, 6, layout(4, 1, 4, 6)), 3, "0402000000010100000000000600000004010206000000000000000000000000000000000000000000000000000000000000000000000000000000000efd8108"},
	{progress(258, 7, 9, layout(4, 2, 16, 5)), 5, "04020000010207000000000009000000040204050000000000000000000000000000000000000000000000000000000000000000000000000000000097475ac4"},
	{progress(1, 35, 1, layout(4, 1, 4, 6)), 37, "040200000001230000000000010000000401020600000000000000000000000000000000000000000000000000000000000000000000000000000000c1deab34"},
	{begin(2, 9, layout(5, 2, 8, 7)), 38, "04010000000200000000000009000000050203070000000000000000000000000000000000000000000000000000000000000000000000000000000094283a4f"},
	{progress(4294967295, 35, 281474976710655, layout(4294967295, 2, 2048, 16)), 73, "0402ffffffff23ffffffffffffffffffff020b1000000000000000000000000000000000000000000000000000000000000000000000000000000000fbe9f1f0"},
	{begin(4294967295, 281474976710655, layout(4294967295, 2, 2048, 16)), 1048575, "0401ffffffff00ffffffffffffffffffff020b1000000000000000000000000000000000000000000000000000000000000000000000000000000000d8b9f4fe"},
	{begin(16909060, 1108152157446, layout(84281096, 2, 1024, 15)), 592395, "0401010203040001020304050605060708020a0f0000000000000000000000000000000000000000000000000000000000000000000000000000000021c2e9e1"},
	{progress(2147483648, 18, 140737488355328, layout(2147483648, 1, 64, 10)), 0, "040280000000128000000000008000000001060a00000000000000000000000000000000000000000000000000000000000000000000000000000000c9618522"},
	{progress(65536, 34, 281474976710654, layout(4294967294, 1, 512, 9)), 65537, "04020001000022fffffffffffefffffffe01090900000000000000000000000000000000000000000000000000000000000000000000000000000000e8ab65fd"},
	{begin(256, 255, layout(255, 2, 32, 8)), 258, "040100000100000000000000ff000000ff0205080000000000000000000000000000000000000000000000000000000000000000000000000000000050575622"},
}

func layout(id, version, sectors, regions int) api.Layout {
	return api.Layout{ID: id, Version: version, RegionSectors: sectors, Regions: regions}
}

func begin(migration, tail int, target api.Layout) api.Plan {
	return api.Plan{Kind: api.PlanBegin, Migration: migration, Tail: tail, Target: target}
}

func progress(migration, index, tail int, target api.Layout) api.Plan {
	return api.Plan{Kind: api.PlanProgress, Migration: migration, Index: index, Tail: tail, Target: target}
}

// ordinary returns a plan record of each kind.
func ordinary() []api.Plan {
	return []api.Plan{begin(3, 5, layout(4, 1, 8, 7)), progress(258, 7, 9, layout(4, 2, 16, 5))}
}

// noise returns n bytes without a visible pattern, the same ones each time.
func noise(n int, seed uint32) []byte {
	b := make([]byte, n)
	for i := range b {
		seed = seed*1664525 + 1013904223
		b[i] = byte(seed >> 24)
	}
	return b
}

// bigEndian splits n into width bytes by division.
func bigEndian(n uint64, width int) []byte {
	b := make([]byte, width)
	for i := range b {
		b[width-1-i] = byte(n % 256)
		n /= 256
	}
	return b
}

// sum returns the number that bytes make up.
func sum(b []byte) int {
	n := 0
	for _, x := range b {
		n = n*256 + int(x)
	}
	return n
}

func isZero(b []byte) bool {
	return !slices.ContainsFunc(b, func(x byte) bool { return x != 0 })
}

// seal returns the sector of this kind and payload, whatever they are, with a checksum that fits.
func seal(kind, salt, sector int, payload []byte) []byte {
	front := slices.Concat([]byte{byte(kind)}, payload, make([]byte, max(0, 59-len(payload))))
	sum := crc.Sum(slices.Concat(bigEndian(uint64(salt), 8), bigEndian(uint64(uint32(sector)), 4), front))
	return slices.Concat(front, bigEndian(uint64(sum), 4))
}

// numbers returns the numbers of p by the words of the chapter, also if p is not valid.
func numbers(p api.Plan) []byte {
	k := 0
	for n := p.Target.RegionSectors; n > 1; n /= 2 {
		k++
	}
	return slices.Concat(bigEndian(uint64(p.Kind), 1), bigEndian(uint64(p.Migration), 4), bigEndian(uint64(p.Index), 1), bigEndian(uint64(p.Tail), 6),
		bigEndian(uint64(p.Target.ID), 4), bigEndian(uint64(p.Target.Version), 1), []byte{byte(k)}, bigEndian(uint64(p.Target.Regions), 1))
}

// slow encodes p by the words of the chapter, also if it is not valid.
func slow(p api.Plan, sector int) []byte {
	return seal(4, 0, sector, numbers(p))
}

// read returns the plan record of a payload, and whether it is a valid one's, by the words of the chapter.
func read(b []byte) (api.Plan, bool) {
	p := api.Plan{Kind: int(b[0]), Migration: sum(b[1:5]), Index: int(b[5]), Tail: sum(b[6:12]), Target: layout(sum(b[12:16]), int(b[16]), 0, int(b[18]))}
	if k := int(b[17]); k >= 1 && k <= 11 {
		p.Target.RegionSectors = powers[k-1]
	}
	kind := p.Kind == 1 && p.Index == 0 || p.Kind == 2 && p.Index >= 1 && p.Index <= 35
	return p, kind && p.Migration != 0 && isWellFormed(p.Target) && isZero(b[used:])
}

// isWellFormed reports whether l is well-formed by the words of chapter 8.
func isWellFormed(l api.Layout) bool {
	return l.ID >= 1 && l.ID <= 4294967295 && (l.Version == 1 || l.Version == 2) && slices.Contains(powers, l.RegionSectors) && l.Regions >= 4 && l.Regions <= 16
}

// mayStart reports whether l satisfies the condition of the chapter.
func mayStart(l api.Layout) bool {
	return isWellFormed(l) && l.ID <= 4294967293
}

// layouts returns well-formed layouts, with each number at both ends of its range and in the middle, which satisfy the condition or not.
func layouts() []api.Layout {
	var all []api.Layout
	for i, id := range []int{1, 2, 3, 255, 256, 65536, 0x01020304, 1 << 31, 1<<32 - 5, 1<<32 - 4, 1<<32 - 3, 1<<32 - 2, 1<<32 - 1} {
		for j, n := range powers {
			all = append(all, layout(id, 1, n, 4+(i+j)%13), layout(id, 2, n, 16-(i+2*j)%13))
		}
	}
	return all
}

// noLayouts returns layouts that are not well-formed, each like l but for one number, and the zero Layout.
func noLayouts(l api.Layout) []api.Layout {
	all := []api.Layout{{}}
	for _, id := range []int{-1, 0, 1 << 32, 1<<32 + 1, 1<<32 + l.ID, math.MinInt, math.MinInt + l.ID, math.MaxInt - 1, math.MaxInt} {
		all = append(all, layout(id, l.Version, l.RegionSectors, l.Regions))
	}
	for _, version := range []int{-1, 0, 3, 256 + l.Version, math.MinInt + l.Version, math.MaxInt} {
		all = append(all, layout(l.ID, version, l.RegionSectors, l.Regions))
	}
	for _, n := range []int{-4, -1, 0, 1, 3, 5, 2047, 2049, 4095, 4096, 1 << 32, 1 << 62, math.MinInt, math.MaxInt} {
		all = append(all, layout(l.ID, l.Version, n, l.Regions))
	}
	for _, regions := range []int{-1, 0, 3, 17, 256 + l.Regions, math.MinInt + l.Regions, math.MaxInt} {
		all = append(all, layout(l.ID, l.Version, l.RegionSectors, regions))
	}
	return all
}

// records returns valid plan records of both kinds, with each number at both ends of its range and in the middle.
func records() []api.Plan {
	migrations := []int{1, 2, 255, 256, 258, 65536, 0x01020304, 1 << 31, 1<<32 - 2, 1<<32 - 1}
	tails := []int{0, 1, 255, 256, 65536, 1<<32 + 1, 0x010203040506, 1 << 47, 1<<48 - 2, 1<<48 - 1}
	var all []api.Plan
	for i, l := range layouts() {
		all = append(all, begin(migrations[i%10], tails[(i/10)%10], l), progress(migrations[(i+3)%10], 1+i%35, tails[(i+i/10)%10], l))
	}
	return all
}

// expectTarget reports an error unless a call returned this target, and OK.
func expectTarget(t *testing.T, what string, got api.Layout, e api.Errno, want api.Layout) {
	t.Helper()
	if e != api.OK || got != want {
		t.Errorf("%s = %+v, error %d; want %+v", what, got, e, want)
	}
}

// expectNoTarget reports an error unless a call returned this error, and the zero Layout.
func expectNoTarget(t *testing.T, what string, got api.Layout, e, want api.Errno) {
	t.Helper()
	if e != want || got != (api.Layout{}) {
		t.Errorf("%s = %+v, error %d; want error %d", what, got, e, want)
	}
}

// expectResize reports an error unless Resize returns what the chapter says.
func expectResize(t *testing.T, l api.Layout, sectors, regionSectors, regions int) {
	t.Helper()
	got, e := Resize(l, sectors, regionSectors, regions)
	switch {
	case !mayStart(l):
		expectNoTarget(t, "Resize", got, e, api.ErrForm)
	case !slices.Contains(powers, regionSectors), regions < 4, regions > 16, 74+regions*regionSectors > sectors, regionSectors == l.RegionSectors && regions == l.Regions:
		expectNoTarget(t, "Resize", got, e, api.ErrPlan)
	default:
		expectTarget(t, "Resize", got, e, layout(l.ID+1, l.Version, regionSectors, regions))
	}
	if t.Failed() {
		t.Fatalf("of %+v on %d sectors to %d and %d", l, sectors, regionSectors, regions)
	}
}

// expectSector reports an error unless Encode returns want.
func expectSector(t *testing.T, p api.Plan, sector int, want []byte) {
	t.Helper()
	if b, e := Encode(p, sector); e != api.OK || !bytes.Equal(b, want) {
		t.Errorf("Encode(%+v, %d) = %x, error %d; want %x", p, sector, b, e, want)
	}
}

// expectErrno reports an error unless Encode returns e, and no bytes.
func expectErrno(t *testing.T, p api.Plan, sector int, e api.Errno) {
	t.Helper()
	if b, got := Encode(p, sector); got != e || len(b) != 0 {
		t.Errorf("Encode(%+v, %d) = %x, error %d, want %d", p, sector, b, got, e)
	}
}

// expectPlan reports an error unless Decode of b returns p.
func expectPlan(t *testing.T, b []byte, sector int, p api.Plan) {
	t.Helper()
	if got, ok := Decode(b, sector); !ok || got != p {
		t.Errorf("Decode(%x, %d) = %+v, %v; want %+v", b, sector, got, ok, p)
	}
}

// expectNone reports an error unless Decode of b returns nothing.
func expectNone(t *testing.T, what string, b []byte, sector int) {
	t.Helper()
	if got, ok := Decode(b, sector); ok || got != (api.Plan{}) {
		t.Errorf("%s: Decode(%x, %d) = %+v, %v", what, b, sector, got, ok)
	}
}

// expectPayload reports an error unless Decode of the sealed payload returns what the chapter says of it.
func expectPayload(t *testing.T, payload []byte, sector int) {
	t.Helper()
	if p, ok := read(payload); ok {
		expectPlan(t, seal(4, 0, sector, payload), sector, p)
	} else {
		expectNone(t, "a forged payload", seal(4, 0, sector, payload), sector)
	}
}

// expectGood reports an error unless p is valid, and encoded and decoded as such.
func expectGood(t *testing.T, what string, p api.Plan) {
	t.Helper()
	if !Valid(p) {
		t.Errorf("%s: Valid(%+v) is false", what, p)
	}
	expectSector(t, p, 2, slow(p, 2))
	expectPlan(t, slow(p, 2), 2, p)
	expectErrno(t, p, -1, api.ErrRange)
}

// expectBad reports an error unless p is not valid, and refused as such.
func expectBad(t *testing.T, what string, p api.Plan) {
	t.Helper()
	if Valid(p) {
		t.Errorf("%s: Valid(%+v) is true", what, p)
	}
	expectErrno(t, p, 2, api.ErrForm)
	expectErrno(t, p, -1, api.ErrForm)
	expectErrno(t, p, 1<<20, api.ErrForm)
}

func TestExampleOfTheChapter(t *testing.T) {
	l := layout(3, 1, 4, 4)
	got, e := Resize(l, 100, 4, 6)
	expectTarget(t, "Resize to 4 and 6", got, e, layout(4, 1, 4, 6))
	got, e = Resize(l, 100, 4, 7)
	expectNoTarget(t, "Resize to 4 and 7", got, e, api.ErrPlan)
}

// TestResizeOfLayouts has layouts of all IDs and both versions, and targets with both numbers of the layout, with one of them, and with none.
func TestResizeOfLayouts(t *testing.T) {
	for _, l := range layouts() {
		for _, n := range powers {
			for regions := 3; regions <= 17; regions++ {
				expectResize(t, l, 1<<20, n, regions)
				expectResize(t, l, 1000, n, regions)
				expectResize(t, l, 100, n, regions)
			}
		}
		expectResize(t, l, 1<<20, l.RegionSectors, l.Regions)
		expectResize(t, l, 1<<20, l.Regions, l.RegionSectors)
	}
}

// TestResizeAtTheLimits has what the tables of the chapter's numbers yield, written out.
func TestResizeAtTheLimits(t *testing.T) {
	for _, x := range []struct {
		l             api.Layout
		sectors, a, b int
		want          api.Layout
		e             api.Errno
	}{
		{layout(1, 1, 4, 4), 82, 2, 4, layout(2, 1, 2, 4), api.OK},
		{layout(1, 1, 4, 4), 81, 2, 4, api.Layout{}, api.ErrPlan},
		{layout(1, 2, 4, 4), 82, 2, 4, layout(2, 2, 2, 4), api.OK},
		{layout(1, 1, 4, 4), 1 << 20, 2048, 16, layout(2, 1, 2048, 16), api.OK},
		{layout(1, 1, 4, 4), 32842, 2048, 16, layout(2, 1, 2048, 16), api.OK},
		{layout(1, 1, 4, 4), 32841, 2048, 16, api.Layout{}, api.ErrPlan},
		{layout(1, 1, 4, 4), math.MaxInt, 2048, 16, layout(2, 1, 2048, 16), api.OK},
		{layout(1, 1, 4, 4), 1 << 20, 1, 6, api.Layout{}, api.ErrPlan},
		{layout(1, 1, 4, 4), 1 << 20, 4096, 6, api.Layout{}, api.ErrPlan},
		{layout(1, 1, 4, 4), 1 << 20, 8, 3, api.Layout{}, api.ErrPlan},
		{layout(1, 1, 4, 4), 1 << 20, 8, 4, layout(2, 1, 8, 4), api.OK},
		{layout(1, 1, 4, 4), 1 << 20, 8, 16, layout(2, 1, 8, 16), api.OK},
		{layout(1, 1, 4, 4), 1 << 20, 8, 17, api.Layout{}, api.ErrPlan},
		{layout(1, 1, 4, 4), 1 << 20, 4, 5, layout(2, 1, 4, 5), api.OK},
		{layout(1, 1, 4, 4), 1 << 20, 4, 4, api.Layout{}, api.ErrPlan},
		{layout(1, 2, 4, 4), 1 << 20, 4, 4, api.Layout{}, api.ErrPlan},
		{layout(4294967292, 1, 4, 4), 100, 4, 5, layout(4294967293, 1, 4, 5), api.OK},
		{layout(4294967293, 2, 4, 4), 100, 4, 5, layout(4294967294, 2, 4, 5), api.OK},
		{layout(4294967294, 1, 4, 4), 100, 4, 5, api.Layout{}, api.ErrForm},
		{layout(4294967295, 1, 4, 4), 100, 4, 5, api.Layout{}, api.ErrForm},
		{layout(4294967294, 1, 4, 4), 100, 4, 4, api.Layout{}, api.ErrForm},
		{layout(4294967296, 1, 4, 4), 100, 4, 5, api.Layout{}, api.ErrForm},
		{layout(0, 1, 4, 4), 100, 4, 5, api.Layout{}, api.ErrForm},
		{api.Layout{}, 0, 0, 0, api.Layout{}, api.ErrForm},
	} {
		if got, e := Resize(x.l, x.sectors, x.a, x.b); e != x.e || got != x.want {
			t.Errorf("Resize(%+v, %d, %d, %d) = %+v, error %d", x.l, x.sectors, x.a, x.b, got, e)
		}
	}
}

// TestResizeOnSmallDevices has devices around the least one that suffices, and ones without any data area.
func TestResizeOnSmallDevices(t *testing.T) {
	l := layout(3, 2, 4, 4)
	for _, n := range powers {
		for regions := 4; regions <= 16; regions++ {
			least := 74 + n*regions
			all := []int{0, 1, 2, 73, 74, 75, 74 + n, least - 74, 74 + n*(regions-1), 1 << 20, 1<<20 + 1, 1 << 32, 1<<32 + 1, -1, -2, -least, -1 << 32, math.MinInt, math.MinInt + 1, math.MinInt + least, math.MaxInt - 74, math.MaxInt}
			for d := -5; d <= 5; d++ {
				all = append(all, least+d)
			}
			for _, sectors := range all {
				expectResize(t, l, sectors, n, regions)
			}
		}
	}
}

// TestResizeToRegionsThatAreNotWellFormed has numbers of sectors and of regions from all over the range, whose product may overflow.
func TestResizeToRegionsThatAreNotWellFormed(t *testing.T) {
	var ns []int
	for n := -70; n <= 70; n++ {
		ns = append(ns, n)
	}
	for k := 7; k < 64; k++ {
		for d := -1; d <= 1; d++ {
			ns = append(ns, 1<<k+d, -1<<k+d)
		}
	}
	bounds := []int{math.MinInt, math.MinInt + 1, -1 << 32, -16, -4, -1, 0, 1, 2, 3, 4, 5, 15, 16, 17, 18, 32, 256 + 4, 1<<32 + 4, 1 << 53, 1 << 60, 1 << 62, math.MaxInt - 1, math.MaxInt}
	for _, n := range ns {
		for _, regions := range bounds {
			for _, sectors := range []int{100, 1 << 20, math.MaxInt, 0, -1, math.MinInt} {
				expectResize(t, layout(3, 1, 4, 6), sectors, n, regions)
			}
		}
	}
}

// TestResizeOfLayoutsThatAreNotWellFormed has targets that are good or not: the error of the layout comes first.
func TestResizeOfLayoutsThatAreNotWellFormed(t *testing.T) {
	for _, good := range []api.Layout{layout(3, 1, 4, 6), layout(4294967293, 2, 2048, 16), layout(1, 1, 2, 4)} {
		for _, l := range append(noLayouts(good), layout(4294967294, 1, 4, 6), layout(4294967295, 2, 4, 6)) {
			for _, target := range [][3]int{{100, 4, 5}, {1 << 20, 2048, 15}, {100, 3, 5}, {100, 4, 7}, {100, 4, 17}, {100, 4, 3}, {0, 0, 0}, {-1, -1, -1}, {1 << 20, l.RegionSectors, l.Regions}, {math.MaxInt, math.MaxInt, math.MaxInt}} {
				got, e := Resize(l, target[0], target[1], target[2])
				expectNoTarget(t, "Resize of a layout that may not start", got, e, api.ErrForm)
			}
		}
	}
}

func TestUpgradeAtTheLimits(t *testing.T) {
	for _, x := range []struct {
		l, want api.Layout
		e       api.Errno
	}{
		{layout(3, 1, 4, 6), layout(4, 2, 4, 6), api.OK},
		{layout(3, 2, 4, 6), api.Layout{}, api.ErrPlan},
		{layout(1, 1, 2, 4), layout(2, 2, 2, 4), api.OK},
		{layout(4294967292, 1, 2048, 16), layout(4294967293, 2, 2048, 16), api.OK},
		{layout(4294967293, 1, 2048, 16), layout(4294967294, 2, 2048, 16), api.OK},
		{layout(4294967293, 2, 2048, 16), api.Layout{}, api.ErrPlan},
		{layout(4294967294, 1, 2048, 16), api.Layout{}, api.ErrForm},
		{layout(4294967295, 1, 2048, 16), api.Layout{}, api.ErrForm},
		{layout(4294967294, 2, 2048, 16), api.Layout{}, api.ErrForm},
		{layout(4294967295, 2, 2048, 16), api.Layout{}, api.ErrForm},
		{layout(3, 3, 4, 6), api.Layout{}, api.ErrForm},
		{layout(3, 0, 4, 6), api.Layout{}, api.ErrForm},
		{layout(3, 2, 4, 17), api.Layout{}, api.ErrForm},
		{api.Layout{}, api.Layout{}, api.ErrForm},
	} {
		if got, e := Upgrade(x.l); e != x.e || got != x.want {
			t.Errorf("Upgrade(%+v) = %+v, error %d", x.l, got, e)
		}
	}
}

func TestUpgradeOfLayouts(t *testing.T) {
	for _, l := range layouts() {
		got, e := Upgrade(l)
		switch {
		case !mayStart(l):
			expectNoTarget(t, "Upgrade of a great ID", got, e, api.ErrForm)
		case l.Version == 2:
			expectNoTarget(t, "Upgrade of version 2", got, e, api.ErrPlan)
		default:
			expectTarget(t, "Upgrade", got, e, layout(l.ID+1, 2, l.RegionSectors, l.Regions))
		}
		for _, no := range noLayouts(l) {
			got, e := Upgrade(no)
			expectNoTarget(t, "Upgrade of a layout that is not well-formed", got, e, api.ErrForm)
		}
	}
}

func TestReturnAtTheLimits(t *testing.T) {
	for _, x := range []struct {
		home, target, want api.Layout
		e                  api.Errno
	}{
		{layout(3, 1, 4, 6), layout(4, 1, 8, 7), layout(5, 1, 4, 6), api.OK},
		{layout(3, 1, 4, 6), layout(4, 2, 4, 6), layout(5, 1, 4, 6), api.OK},
		{layout(3, 2, 4, 6), layout(4, 1, 8, 7), layout(5, 2, 4, 6), api.OK},
		{layout(9, 1, 4, 6), layout(4, 1, 8, 7), layout(5, 1, 4, 6), api.OK},
		{layout(3, 1, 4, 6), layout(3, 1, 4, 6), layout(4, 1, 4, 6), api.OK},
		{layout(3, 1, 4, 6), layout(4294967293, 1, 8, 7), layout(4294967294, 1, 4, 6), api.OK},
		{layout(3, 1, 4, 6), layout(4294967294, 1, 8, 7), api.Layout{}, api.ErrForm},
		{layout(3, 1, 4, 6), layout(4294967295, 1, 8, 7), api.Layout{}, api.ErrForm},
		{layout(4294967293, 1, 4, 6), layout(1, 1, 8, 7), layout(2, 1, 4, 6), api.OK},
		{layout(4294967294, 1, 4, 6), layout(1, 1, 8, 7), api.Layout{}, api.ErrForm},
		{layout(4294967295, 1, 4, 6), layout(1, 1, 8, 7), api.Layout{}, api.ErrForm},
		{layout(3, 1, 4, 6), api.Layout{}, api.Layout{}, api.ErrForm},
		{api.Layout{}, layout(4, 1, 8, 7), api.Layout{}, api.ErrForm},
		{api.Layout{}, api.Layout{}, api.Layout{}, api.ErrForm},
	} {
		if got, e := Return(x.home, x.target); e != x.e || got != x.want {
			t.Errorf("Return(%+v, %+v) = %+v, error %d", x.home, x.target, got, e)
		}
	}
}

// TestReturnOfAllPairs has layouts in both places that satisfy the condition or not.
func TestReturnOfAllPairs(t *testing.T) {
	all := append(layouts(), noLayouts(layout(3, 1, 4, 6))...)
	all = append(all, noLayouts(layout(4294967293, 2, 2048, 16))...)
	for _, home := range all {
		for _, target := range all {
			got, e := Return(home, target)
			if mayStart(home) && mayStart(target) {
				expectTarget(t, "Return", got, e, layout(target.ID+1, home.Version, home.RegionSectors, home.Regions))
			} else {
				expectNoTarget(t, "Return", got, e, api.ErrForm)
			}
		}
	}
}

// TestTargetsAreWellFormed has what follows from the condition: the target of each migration is a layout that a superblock may hold.
func TestTargetsAreWellFormed(t *testing.T) {
	for _, l := range layouts() {
		for _, n := range []int{2, 2048} {
			for _, regions := range []int{4, 16} {
				target, e := Resize(l, 1<<20, n, regions)
				if e == api.OK && !isWellFormed(target) {
					t.Errorf("Resize(%+v) = %+v", l, target)
				}
				back, e := Return(l, target)
				if e == api.OK && (!isWellFormed(back) || back.ID <= target.ID || target.ID <= l.ID) {
					t.Errorf("Return(%+v, %+v) = %+v", l, target, back)
				}
			}
		}
		if target, e := Upgrade(l); e == api.OK && !isWellFormed(target) {
			t.Errorf("Upgrade(%+v) = %+v", l, target)
		}
	}
}

func TestKnownRecords(t *testing.T) {
	for _, x := range known {
		want, err := hex.DecodeString(x.want)
		if err != nil || len(want) != 64 {
			t.Fatalf("%+v: a sector of %d bytes, %v", x.p, len(want), err)
		}
		expectSector(t, x.p, x.sector, want)
		expectPlan(t, want, x.sector, x.p)
		if !Valid(x.p) {
			t.Errorf("Valid(%+v) is false", x.p)
		}
	}
}

func TestValidAtTheLimits(t *testing.T) {
	for _, x := range []struct {
		what     string
		set      func(p *api.Plan, n int)
		good, no []int
	}{
		{"Migration", func(p *api.Plan, n int) { p.Migration = n }, []int{1, 2, 4294967294, 4294967295}, []int{-1, 0, 4294967296, 4294967297, 1<<33 + 1}},
		{"Tail", func(p *api.Plan, n int) { p.Tail = n }, []int{0, 1, 281474976710654, 281474976710655}, []int{-1, 281474976710656, 281474976710657, 1<<49 + 1}},
		{"ID", func(p *api.Plan, n int) { p.Target.ID = n }, []int{1, 2, 4294967293, 4294967294, 4294967295}, []int{-1, 0, 4294967296, 4294967297}},
		{"Version", func(p *api.Plan, n int) { p.Target.Version = n }, []int{1, 2}, []int{-1, 0, 3, 257, 258}},
		{"RegionSectors", func(p *api.Plan, n int) { p.Target.RegionSectors = n }, powers, []int{-2, 0, 1, 3, 5, 6, 2047, 2049, 4096, 1 << 32, 1 << 62}},
		{"Regions", func(p *api.Plan, n int) { p.Target.Regions = n }, []int{4, 5, 10, 15, 16}, []int{-4, 0, 3, 17, 260, 1<<32 + 4}},
		{"Kind", func(p *api.Plan, n int) { p.Kind = n }, nil, []int{-1, 0, 3, 4, 255, 256, 257, 258, 1<<32 + 1, 1<<32 + 2}},
	} {
		for _, p := range ordinary() {
			for _, n := range x.good {
				x.set(&p, n)
				expectGood(t, x.what, p)
			}
			for _, n := range append(x.no, -2, -255, -1<<32+1, -1<<40+1, 1<<62+1, math.MinInt, math.MinInt+1, math.MinInt+2, math.MaxInt-1, math.MaxInt) {
				x.set(&p, n)
				expectBad(t, x.what, p)
			}
		}
	}
}

// TestIndicesOfTheKinds has each index for both kinds, and for numbers that are none.
func TestIndicesOfTheKinds(t *testing.T) {
	all := []int{math.MinInt, math.MinInt + 1, -1 << 32, -256, 255, 256, 257, 1 << 32, 1<<32 + 1, math.MaxInt - 1, math.MaxInt}
	for index := -40; index <= 80; index++ {
		all = append(all, index)
	}
	for _, index := range all {
		for kind := -1; kind <= 5; kind++ {
			p := api.Plan{Kind: kind, Migration: 3, Index: index, Tail: 5, Target: layout(4, 1, 8, 7)}
			if kind == 1 && index == 0 || kind == 2 && index >= 1 && index <= 35 {
				expectGood(t, "an index of its kind", p)
			} else {
				expectBad(t, "no index of its kind", p)
			}
		}
	}
}

func TestTargetsThatAreNotWellFormed(t *testing.T) {
	for _, p := range ordinary() {
		for _, l := range noLayouts(p.Target) {
			p.Target = l
			expectBad(t, "the target", p)
		}
	}
	expectBad(t, "the zero Plan", api.Plan{})
}

// TestRecordsWithTwoDefects has records with two numbers that are not valid: one does not make up for the other.
func TestRecordsWithTwoDefects(t *testing.T) {
	defects := []func(p *api.Plan){
		func(p *api.Plan) { p.Kind = 0 },
		func(p *api.Plan) { p.Kind = 3 },
		func(p *api.Plan) { p.Kind, p.Index = 1, 1 },
		func(p *api.Plan) { p.Kind, p.Index = 2, 0 },
		func(p *api.Plan) { p.Index = -1 },
		func(p *api.Plan) { p.Index = 36 },
		func(p *api.Plan) { p.Migration = 0 },
		func(p *api.Plan) { p.Migration = 1 << 32 },
		func(p *api.Plan) { p.Tail = -1 },
		func(p *api.Plan) { p.Tail = 1 << 48 },
		func(p *api.Plan) { p.Target.ID = 0 },
		func(p *api.Plan) { p.Target.Regions = 17 },
	}
	for _, p := range ordinary() {
		for i, first := range defects {
			for j, second := range defects {
				if i/6 != 0 || j/6 != 0 {
					bad := p
					first(&bad)
					second(&bad)
					expectBad(t, "two defects", bad)
				}
			}
		}
	}
}

func TestValidRecords(t *testing.T) {
	for i, p := range records() {
		expectGood(t, "valid", p)
		for _, sector := range []int{0, sectors[i%len(sectors)], 1048575} {
			want := slow(p, sector)
			expectSector(t, p, sector, want)
			expectPlan(t, want, sector, p)
		}
	}
}

func TestSectorsThatFramesRefuse(t *testing.T) {
	for _, sector := range noSectors {
		for _, p := range records() {
			expectErrno(t, p, sector, api.ErrRange)
			expectNone(t, "no sector", slow(p, sector), sector)
		}
		expectErrno(t, api.Plan{}, sector, api.ErrForm)
	}
}

func TestDecodeForOtherSectors(t *testing.T) {
	for i, p := range records() {
		sector := sectors[i%len(sectors)]
		b := slow(p, sector)
		for _, other := range slices.Concat(sectors, noSectors) {
			if other != sector {
				expectNone(t, "another sector", b, other)
			}
		}
		for bit := range 64 {
			expectNone(t, "a sector with another bit", b, sector^1<<bit)
		}
	}
}

func TestDecodeOfOtherLengths(t *testing.T) {
	for _, x := range known {
		whole := append(slow(x.p, x.sector), make([]byte, 64)...)
		for n := range len(whole) + 1 {
			if n != 64 {
				expectNone(t, "cut or longer", whole[:n], x.sector)
			}
		}
		expectPlan(t, whole[:64], x.sector, x.p)
		expectNone(t, "nil", nil, x.sector)
		expectNone(t, "nothing", []byte{}, x.sector)
		expectNone(t, "without its first byte", whole[1:64], x.sector)
		expectNone(t, "shifted", append([]byte{0}, whole[:63]...), x.sector)
		expectNone(t, "twice", slices.Concat(whole[:64], whole[:64]), x.sector)
		expectNone(t, "very long", append(whole, make([]byte, 1<<16)...), x.sector)
		expectNone(t, "the numbers alone", numbers(x.p), x.sector)
	}
}

func TestDecodeOfChangedBytes(t *testing.T) {
	for _, x := range known {
		b := slow(x.p, x.sector)
		for i := range b {
			for change := 1; change < 256; change++ {
				b[i] ^= byte(change)
				expectNone(t, "a changed byte", b, x.sector)
				b[i] ^= byte(change)
			}
		}
		expectPlan(t, b, x.sector, x.p)
	}
}

// TestDecodeOfOtherFrames seals the numbers of plan records in frames of every other kind, and with other salts.
func TestDecodeOfOtherFrames(t *testing.T) {
	for _, x := range known {
		for kind := range 256 {
			if kind != 4 {
				expectNone(t, "another kind", seal(kind, 0, x.sector, numbers(x.p)), x.sector)
			}
		}
		for _, salt := range []int{1, 2, 255, 256, 1 << 32, math.MaxInt, -1, math.MinInt, x.p.Migration, x.p.Target.ID, x.sector + 1} {
			expectNone(t, "another salt", seal(4, salt, x.sector, numbers(x.p)), x.sector)
		}
	}
}

// TestDecodeOfForgedBytes seals every value of every byte of a payload.
func TestDecodeOfForgedBytes(t *testing.T) {
	for _, x := range known {
		p := append(numbers(x.p), make([]byte, 59-used)...)
		for i := range p {
			for change := range 256 {
				p[i] ^= byte(change)
				expectPayload(t, p, x.sector)
				p[i] ^= byte(change)
			}
		}
	}
}

// TestDecodeOfForgedExponents seals every exponent, with every small number of regions and version.
func TestDecodeOfForgedExponents(t *testing.T) {
	for k := range 256 {
		for regions := range 20 {
			for version := range 4 {
				p := append(numbers(ordinary()[1]), make([]byte, 59-used)...)
				p[16], p[17], p[18] = byte(version), byte(k), byte(regions)
				expectPayload(t, p, 5)
			}
		}
	}
}

// TestDecodeOfForgedKinds seals every index with every small kind.
func TestDecodeOfForgedKinds(t *testing.T) {
	for kind := range 5 {
		for index := range 256 {
			p := append(numbers(ordinary()[0]), make([]byte, 59-used)...)
			p[0], p[5] = byte(kind), byte(index)
			expectPayload(t, p, 2)
		}
	}
}

// TestDecodeOfForgedRests seals a payload with one byte that is not 0 behind the numbers.
func TestDecodeOfForgedRests(t *testing.T) {
	for _, x := range known {
		for i := used; i < 59; i++ {
			for _, change := range []byte{1, 2, 64, 128, 255} {
				p := append(numbers(x.p), make([]byte, 59-used)...)
				p[i] = change
				expectNone(t, "a rest that is not 0", seal(4, 0, x.sector, p), x.sector)
			}
		}
		expectNone(t, "a rest of noise", seal(4, 0, x.sector, append(numbers(x.p), noise(59-used, 3)...)), x.sector)
		expectPlan(t, seal(4, 0, x.sector, numbers(x.p)), x.sector, x.p)
	}
}

func TestDecodeOfForgedNumbers(t *testing.T) {
	for i, p := range records() {
		sector := sectors[i%len(sectors)]
		for _, change := range []func(x *api.Plan){
			func(x *api.Plan) { x.Kind = 3 - x.Kind },
			func(x *api.Plan) { x.Kind = 0 },
			func(x *api.Plan) { x.Kind = 3 },
			func(x *api.Plan) { x.Migration = 0 },
			func(x *api.Plan) { x.Index = 36 },
			func(x *api.Plan) { x.Index = 255 },
			func(x *api.Plan) { x.Target.ID = 0 },
			func(x *api.Plan) { x.Target.Version = 0 },
			func(x *api.Plan) { x.Target.Version = 3 },
			func(x *api.Plan) { x.Target.RegionSectors = 1 },
			func(x *api.Plan) { x.Target.RegionSectors = 4096 },
			func(x *api.Plan) { x.Target.Regions = 3 },
			func(x *api.Plan) { x.Target.Regions = 17 },
			func(x *api.Plan) { x.Target = api.Layout{} },
		} {
			bad := p
			change(&bad)
			expectNone(t, "forged numbers", slow(bad, sector), sector)
		}
		expectNone(t, "no numbers", seal(4, 0, sector, nil), sector)
		expectNone(t, "ones", seal(4, 0, sector, bytes.Repeat([]byte{255}, 59)), sector)
	}
}

func TestDecodeOfArbitraryBytes(t *testing.T) {
	for _, sector := range slices.Concat(sectors, noSectors) {
		for n := range 130 {
			expectNone(t, "zeros", make([]byte, n), sector)
			expectNone(t, "ones", bytes.Repeat([]byte{255}, n), sector)
			b := noise(n, uint32(n))
			expectNone(t, "noise", b, sector)
			if n > 0 {
				b[0] = 4
				expectNone(t, "noise behind a kind", b, sector)
			}
		}
	}
	for seed := range 1000 {
		expectPayload(t, noise(59, uint32(seed)), 2)
	}
}

func TestResultsOfEncodeShareNoMemory(t *testing.T) {
	for _, x := range known {
		first, _ := Encode(x.p, x.sector)
		second, _ := Encode(x.p, x.sector)
		clear(second[:cap(second)])
		if !bytes.Equal(first, slow(x.p, x.sector)) {
			t.Errorf("a result of Encode(%+v, %d) shares memory with another one", x.p, x.sector)
		}
		expectSector(t, x.p, x.sector, slow(x.p, x.sector))
	}
}

func TestDecodeLeavesItsArgumentAlone(t *testing.T) {
	for _, x := range known {
		whole := slices.Concat(noise(10, 6), slow(x.p, x.sector), noise(50, 7))
		old := bytes.Clone(whole)
		got, ok := Decode(whole[10:74], x.sector)
		Decode(whole[10:74], x.sector+1)
		Decode(whole[10:74], -1)
		Decode(whole[10:73], x.sector)
		Decode(whole[10:75], x.sector)
		Decode(whole, x.sector)
		if !bytes.Equal(whole, old) {
			t.Error("Decode changes its argument, or what surrounds it")
		}
		clear(whole)
		if !ok || got != x.p {
			t.Errorf("Decode = %+v, %v; want %+v", got, ok, x.p)
		}
		expectNone(t, "the same memory, cleared", whole[10:74], x.sector)
	}
}

func TestCallsDependOnNothingElse(t *testing.T) {
	for _, x := range known {
		want := slow(x.p, x.sector)
		for range 3 {
			expectSector(t, x.p, x.sector, want)
			expectPlan(t, want, x.sector, x.p)
			expectResize(t, layout(3, 1, 4, 6), 200, 8, 6)
			Encode(ordinary()[1], 96)
			Upgrade(layout(8, 1, 4, 6))
			Return(layout(8, 1, 4, 6), layout(9, 1, 4, 6))
			expectErrno(t, api.Plan{}, 0, api.ErrForm)
			expectNone(t, "in between", noise(64, 1), x.sector)
		}
	}
}
