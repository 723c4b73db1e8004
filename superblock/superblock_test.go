package superblock

import (
	"bytes"
	"encoding/hex"
	"math"
	"slices"
	"testing"

	"flashcache/api"
	"flashcache/crc"
)

// used is the number of bytes of a payload that a superblock takes at most.
const used = 43

// phaseAt, homeAt, foreignAt and secondAt are offsets in a payload.
const (
	phaseAt   = 5
	homeAt    = 28
	foreignAt = 35
	secondAt  = 36
)

// sectors are numbers of sectors, the smallest and the greatest one among them.
var sectors = []int{0, 1, 2, 73, 74, 255, 256, 258, 65535, 65536, 65537, 1 << 19, 0x90A0B, 1048574, 1048575}

// noSectors are numbers of no sector. Some of them have the same lowest bytes as one.
var noSectors = []int{-1, -2, -74, -1 << 20, -1 << 32, math.MinInt, math.MinInt + 1, 1048576, 1048577, 1 << 21, 1<<24 + 1, 1 << 31, 1<<32 - 1, 1 << 32, 1<<32 + 1, math.MaxInt}

// known has superblocks and their sectors, which another program made.
var known = []struct {
	s      api.Super
	sector int
	want   string
}{
	{stable(1, 0, 1, 0, layout(1, 1, 2, 4)), 1, "0300000000010100000000000000000001000000000000000001010104000000000000000000000000000000000000000000000000000000000000000a281dd1"},
	{stable(1, 0, 0, 0, layout(3, 1, 4, 6)), 0, "030000000001010000000000000000000000000000000000000301020600000000000000000000000000000000000000000000000000000000000000742b0303"},
	{stable(258, 0, 5, 7, layout(3, 1, 4, 6)), 0, "030000000102010000000000000000000500000000070000000301020600000000000000000000000000000000000000000000000000000000000000869ae826"},
	{stable(1099511627775, 4294967295, 281474976710655, 549755813888, layout(4294967295, 2, 2048, 16)), 1048575, "03ffffffffff01ffffffffffffffffffff8000000000ffffffff020b1000000000000000000000000000000000000000000000000000000000000000508590af"},
	{migrating(9, 2, 0, 0, layout(4, 2, 4, 6), layout(3, 1, 4, 6)), 1, "030000000009020000000200000000000000000000000000000402020600000003010206010000000000000000000000000000000000000000000000702cd458"},
	{migrating(4328719365, 16909060, 1108152157446, 4328719365, layout(84281096, 2, 8, 7), layout(16909060, 1, 1024, 15)), 592395, "030102030405020102030401020304050601020304050506070802030701020304010a0f0100000000000000000000000000000000000000000000000f213281"},
	{migrating(1099511627775, 4294967295, 281474976710655, 549755813888, layout(1, 2, 2048, 16), layout(4294967295, 2, 2048, 16)), 0, "03ffffffffff02ffffffffffffffffffff800000000000000001020b10ffffffff020b100100000000000000000000000000000000000000000000001f215b28"},
	{returning(9, 2, 0, 0, layout(5, 1, 4, 6), layout(3, 1, 4, 6), layout(4, 2, 8, 7)), 1, "030000000009030000000200000000000000000000000000000501020600000003010206020000000402030700000000000000000000000000000000325a0d18"},
	{returning(1099511627774, 1, 140737488355328, 549755813887, layout(2147483648, 2, 2, 4), layout(2147483647, 2, 2, 4), layout(65536, 1, 512, 9)), 258, "03fffffffffe03000000018000000000007fffffffff800000000201047fffffff020104020001000001090900000000000000000000000000000000c9acc50d"},
	{returning(1099511627775, 4294967295, 281474976710655, 549755813888, layout(4294967295, 2, 2048, 16), layout(4294967294, 2, 2048, 16), layout(4294967293, 1, 256, 10)), 65537, "03ffffffffff03ffffffffffffffffffff8000000000ffffffff020b10fffffffe020b1002fffffffd01080a000000000000000000000000000000005af50c28"},
}

func layout(id, version, sectors, regions int) api.Layout {
	return api.Layout{ID: id, Version: version, RegionSectors: sectors, Regions: regions}
}

func stable(gen, migration, tail, now int, target api.Layout) api.Super {
	return api.Super{Gen: gen, Phase: api.PhaseStable, Migration: migration, Tail: tail, Now: now, Target: target}
}

func migrating(gen, migration, tail, now int, target, home api.Layout) api.Super {
	return api.Super{Gen: gen, Phase: api.PhaseMigrating, Migration: migration, Tail: tail, Now: now, Target: target, Home: home, Foreign: []api.Layout{home}}
}

func returning(gen, migration, tail, now int, target, home, second api.Layout) api.Super {
	return api.Super{Gen: gen, Phase: api.PhaseReturning, Migration: migration, Tail: tail, Now: now, Target: target, Home: home, Foreign: []api.Layout{home, second}}
}

// ordinary returns a superblock of each phase.
func ordinary() []api.Super {
	home := layout(3, 1, 4, 6)
	return []api.Super{
		stable(258, 2, 5, 7, home),
		migrating(9, 2, 5, 7, layout(4, 2, 4, 6), home),
		returning(10, 3, 5, 7, layout(5, 1, 4, 6), home, layout(4, 2, 8, 7)),
	}
}

// clone returns a copy of s that shares no memory with it.
func clone(s api.Super) api.Super {
	s.Foreign = slices.Clone(s.Foreign)
	return s
}

// noise returns n bytes without a visible pattern, the same ones each time.
func noise(n int, seed uint32) []byte {
	b := make([]byte, n)
	for i := range b {
		seed = seed*1664525 + 1013904223
		b[i] = byte(seed >> 24)
	}
	return b
}

// bigEndian splits n into width bytes by division.
func bigEndian(n uint64, width int) []byte {
	b := make([]byte, width)
	for i := range b {
		b[width-1-i] = byte(n % 256)
		n /= 256
	}
	return b
}

// sum returns the number that bytes make up.
func sum(b []byte) int {
	n := 0
	for _, x := range b {
		n = n*256 + int(x)
	}
	return n
}

func isZero(b []byte) bool {
	return !slices.ContainsFunc(b, func(x byte) bool { return x != 0 })
}

// seal returns the sector of this kind and payload, whatever they are, with a checksum that fits.
func seal(kind, salt, sector int, payload []byte) []byte {
	front := slices.Concat([]byte{byte(kind)}, payload, make([]byte, max(0, 59-len(payload))))
	sum := crc.Sum(slices.Concat(bigEndian(uint64(salt), 8), bigEndian(uint64(uint32(sector)), 4), front))
	return slices.Concat(front, bigEndian(uint64(sum), 4))
}

// layoutBytes returns the bytes of a layout by the words of the chapter, also if it is not well-formed.
func layoutBytes(l api.Layout) []byte {
	k := 0
	for n := l.RegionSectors; n > 1; n /= 2 {
		k++
	}
	return slices.Concat(bigEndian(uint64(l.ID), 4), []byte{byte(l.Version), byte(k), byte(l.Regions)})
}

// numbers returns the payload of s by the words of the chapter, also if s is not valid.
func numbers(s api.Super) []byte {
	b := slices.Concat(bigEndian(uint64(s.Gen), 5), bigEndian(uint64(s.Phase), 1), bigEndian(uint64(s.Migration), 4),
		bigEndian(uint64(s.Tail), 6), bigEndian(uint64(s.Now), 5), layoutBytes(s.Target), layoutBytes(s.Home), bigEndian(uint64(len(s.Foreign)), 1))
	if len(s.Foreign) > 1 {
		b = append(b, layoutBytes(s.Foreign[1])...)
	}
	return append(b, make([]byte, 59-len(b))...)
}

// slow encodes s by the words of the chapter, also if it is not valid.
func slow(s api.Super, sector int) []byte {
	return seal(3, 0, sector, numbers(s))
}

// readLayout returns the layout of these bytes, and whether it is well-formed.
func readLayout(p []byte) (api.Layout, bool) {
	l := layout(sum(p[:4]), int(p[4]), 0, int(p[6]))
	for k := 1; k <= 11; k++ {
		if int(p[5]) == k {
			l.RegionSectors = []int{2, 4, 8, 16, 32, 64, 128, 256, 512, 1024, 2048}[k-1]
		}
	}
	return l, l.ID != 0 && (l.Version == 1 || l.Version == 2) && l.RegionSectors != 0 && l.Regions >= 4 && l.Regions <= 16
}

// read returns the superblock of a payload, and whether it is a valid one's, by the words of the chapter.
func read(p []byte) (api.Super, bool) {
	s := api.Super{Gen: sum(p[:5]), Phase: int(p[phaseAt]), Migration: sum(p[6:10]), Tail: sum(p[10:16]), Now: sum(p[16:21])}
	target, ok := readLayout(p[21:28])
	home, isHome := readLayout(p[homeAt:foreignAt])
	second, isSecond := readLayout(p[secondAt:used])
	ok = ok && s.Gen != 0 && s.Now <= 549755813888
	s.Target = target
	switch s.Phase {
	case 1:
		return s, ok && isZero(p[homeAt:])
	case 2:
		s.Home, s.Foreign = home, []api.Layout{home}
		return s, ok && isHome && s.Migration != 0 && target.ID != home.ID && p[foreignAt] == 1 && isZero(p[secondAt:])
	case 3:
		s.Home, s.Foreign = home, []api.Layout{home, second}
		same := target.Version == home.Version && target.RegionSectors == home.RegionSectors && target.Regions == home.Regions
		different := target.ID != home.ID && target.ID != second.ID && home.ID != second.ID
		return s, ok && isHome && isSecond && s.Migration != 0 && same && different && p[foreignAt] == 2 && isZero(p[used:])
	}
	return s, false
}

// isSame reports whether a and b are equal, without Equal.
func isSame(a, b api.Super) bool {
	if len(a.Foreign) != len(b.Foreign) {
		return false
	}
	for i := range a.Foreign {
		if a.Foreign[i] != b.Foreign[i] {
			return false
		}
	}
	return a.Gen == b.Gen && a.Phase == b.Phase && a.Migration == b.Migration && a.Tail == b.Tail && a.Now == b.Now && a.Target == b.Target && a.Home == b.Home
}

// superblocks returns valid superblocks of all phases, with each number at both ends of its range and in the middle.
func superblocks() []api.Super {
	gens := []int{1, 2, 255, 256, 65536, 0x0102030405, 1<<32 + 1, 1 << 39, 1<<40 - 2, 1<<40 - 1}
	ids := []int{1, 2, 255, 256, 258, 65536, 0x01020304, 1 << 31, 1<<32 - 2, 1<<32 - 1}
	tails := []int{0, 1, 255, 256, 65536, 1<<32 + 1, 0x010203040506, 1 << 47, 1<<48 - 2, 1<<48 - 1}
	nows := []int{0, 1, 255, 256, 65536, 1<<32 - 1, 1 << 32, 0x0102030405, 1<<39 - 1, 1 << 39}
	var all []api.Super
	for i := range 10 {
		for k := 1; k <= 11; k++ {
			regions := 4 + (i+k)%13
			home := layout(ids[i], 1+k%2, 1<<k, regions)
			next := layout(ids[(i+1)%10], 1+i%2, 1<<(12-k), 20-regions)
			back := layout(ids[(i+2)%10], 1+k%2, 1<<k, regions)
			gen, tail, now := gens[(i+k)%10], tails[(i+2*k)%10], nows[(i+3*k)%10]
			all = append(all,
				stable(gen, 0, tail, now, home),
				stable(gen, ids[(i+k)%10], tail, now, next),
				migrating(gen, ids[(i+k)%10], tail, now, next, home),
				returning(gen, ids[(i+k)%10], tail, now, back, home, next))
		}
	}
	return all
}

// expectSector reports an error unless Encode returns want.
func expectSector(t *testing.T, s api.Super, sector int, want []byte) {
	t.Helper()
	if b, e := Encode(s, sector); e != api.OK || !bytes.Equal(b, want) {
		t.Errorf("Encode(%+v, %d) = %x, error %d; want %x", s, sector, b, e, want)
	}
}

// expectErrno reports an error unless Encode returns e, and no bytes.
func expectErrno(t *testing.T, s api.Super, sector int, e api.Errno) {
	t.Helper()
	if b, got := Encode(s, sector); got != e || len(b) != 0 {
		t.Errorf("Encode(%+v, %d) = %x, error %d, want %d", s, sector, b, got, e)
	}
}

// expectSuper reports an error unless Decode of b returns s.
func expectSuper(t *testing.T, b []byte, sector int, s api.Super) {
	t.Helper()
	if got, ok := Decode(b, sector); !ok || !isSame(got, s) {
		t.Errorf("Decode(%x, %d) = %+v, %v; want %+v", b, sector, got, ok, s)
	}
}

// expectNone reports an error unless Decode of b returns nothing.
func expectNone(t *testing.T, what string, b []byte, sector int) {
	t.Helper()
	if got, ok := Decode(b, sector); ok || !isSame(got, api.Super{}) {
		t.Errorf("%s: Decode(%x, %d) = %+v, %v", what, b, sector, got, ok)
	}
}

// expectPayload reports an error unless Decode of the sealed payload returns what the chapter says of it.
func expectPayload(t *testing.T, p []byte, sector int) {
	t.Helper()
	if s, ok := read(p); ok {
		expectSuper(t, seal(3, 0, sector, p), sector, s)
	} else {
		expectNone(t, "a forged payload", seal(3, 0, sector, p), sector)
	}
}

// expectGood reports an error unless s is valid, and encoded and decoded as such.
func expectGood(t *testing.T, what string, s api.Super) {
	t.Helper()
	if !Valid(s) {
		t.Errorf("%s: Valid(%+v) is false", what, s)
	}
	expectSector(t, s, 1, slow(s, 1))
	expectSuper(t, slow(s, 1), 1, s)
	expectErrno(t, s, -1, api.ErrRange)
}

// expectBad reports an error unless s is not valid, and refused as such.
func expectBad(t *testing.T, what string, s api.Super) {
	t.Helper()
	if Valid(s) {
		t.Errorf("%s: Valid(%+v) is true", what, s)
	}
	expectErrno(t, s, 1, api.ErrForm)
	expectErrno(t, s, -1, api.ErrForm)
}

// TestKnownSuperblocks has the layout of the chapter's example, with RegionSectors 4, in several sectors: it is written with the byte 2.
func TestKnownSuperblocks(t *testing.T) {
	for _, x := range known {
		want, err := hex.DecodeString(x.want)
		if err != nil || len(want) != 64 {
			t.Fatalf("%+v: a sector of %d bytes, %v", x.s, len(want), err)
		}
		expectSector(t, x.s, x.sector, want)
		expectSuper(t, want, x.sector, x.s)
		if !Valid(x.s) {
			t.Errorf("Valid(%+v) is false", x.s)
		}
	}
}

func TestExampleOfTheChapter(t *testing.T) {
	if Form(layout(1, 1, 3, 4)) {
		t.Error("a layout with RegionSectors 3 is well-formed")
	}
	b, e := Encode(stable(1, 0, 0, 0, layout(1, 1, 4, 4)), 1)
	if e != api.OK || len(b) != 64 || !bytes.Equal(b[22:29], []byte{0, 0, 0, 1, 1, 2, 4}) {
		t.Errorf("Encode of a layout with RegionSectors 4 = %x, error %d", b, e)
	}
}

func TestFormAtTheLimits(t *testing.T) {
	for _, x := range []struct {
		l    api.Layout
		want bool
	}{
		{layout(-1, 1, 4, 6), false}, {layout(0, 1, 4, 6), false}, {layout(1, 1, 4, 6), true}, {layout(2, 1, 4, 6), true},
		{layout(4294967294, 1, 4, 6), true}, {layout(4294967295, 1, 4, 6), true}, {layout(4294967296, 1, 4, 6), false}, {layout(4294967297, 1, 4, 6), false},
		{layout(math.MinInt, 1, 4, 6), false}, {layout(math.MinInt+1, 1, 4, 6), false}, {layout(math.MaxInt, 1, 4, 6), false},
		{layout(3, -1, 4, 6), false}, {layout(3, 0, 4, 6), false}, {layout(3, 1, 4, 6), true}, {layout(3, 2, 4, 6), true}, {layout(3, 3, 4, 6), false},
		{layout(3, 257, 4, 6), false}, {layout(3, 258, 4, 6), false}, {layout(3, math.MinInt, 4, 6), false}, {layout(3, math.MinInt+1, 4, 6), false}, {layout(3, math.MaxInt, 4, 6), false},
		{layout(3, 1, 4, -6), false}, {layout(3, 1, 4, 0), false}, {layout(3, 1, 4, 3), false}, {layout(3, 1, 4, 4), true}, {layout(3, 1, 4, 5), true},
		{layout(3, 1, 4, 15), true}, {layout(3, 1, 4, 16), true}, {layout(3, 1, 4, 17), false}, {layout(3, 1, 4, 256+6), false},
		{layout(3, 1, 4, math.MinInt), false}, {layout(3, 1, 4, math.MinInt+6), false}, {layout(3, 1, 4, math.MaxInt), false},
		{layout(1, 1, 2, 4), true}, {layout(4294967295, 2, 2048, 16), true}, {api.Layout{}, false},
	} {
		if got := Form(x.l); got != x.want {
			t.Errorf("Form(%+v) = %v", x.l, got)
		}
	}
}

// TestFormOfRegionSectors has all small numbers, and the great ones near powers of two, also the negative ones.
func TestFormOfRegionSectors(t *testing.T) {
	powers := []int{2, 4, 8, 16, 32, 64, 128, 256, 512, 1024, 2048}
	var all []int
	for n := -5000; n <= 5000; n++ {
		all = append(all, n)
	}
	for k := 12; k < 64; k++ {
		for d := -2; d <= 2; d++ {
			all = append(all, 1<<k+d, -1<<k+d)
		}
	}
	for _, n := range all {
		for _, l := range []api.Layout{layout(3, 1, n, 6), layout(4294967295, 2, n, 16)} {
			if got := Form(l); got != slices.Contains(powers, n) {
				t.Errorf("Form(%+v) = %v", l, got)
			}
		}
	}
}

func TestValidAtTheLimits(t *testing.T) {
	for _, x := range []struct {
		what     string
		set      func(s *api.Super, n int)
		good, no []int
	}{
		{"Gen", func(s *api.Super, n int) { s.Gen = n }, []int{1, 2, 1099511627774, 1099511627775}, []int{-1, 0, 1099511627776, 1099511627777, 1<<41 + 1}},
		{"Migration", func(s *api.Super, n int) { s.Migration = n }, []int{1, 2, 4294967294, 4294967295}, []int{-1, 4294967296, 4294967297, 1<<33 + 1}},
		{"Tail", func(s *api.Super, n int) { s.Tail = n }, []int{0, 1, 281474976710654, 281474976710655}, []int{-1, 281474976710656, 281474976710657, 1<<49 + 1}},
		{"Now", func(s *api.Super, n int) { s.Now = n }, []int{0, 1, 549755813887, 549755813888}, []int{-1, 549755813889, 549755813890, 1<<40 - 1, 1 << 40, 1<<40 + 1}},
		{"Phase", func(s *api.Super, n int) { s.Phase = n }, nil, []int{-1, 0, 4, 5, 255, 256, 257, 258, 259, 1<<32 + 1, 1<<32 + 2, 1<<32 + 3}},
	} {
		for _, s := range ordinary() {
			for _, n := range x.good {
				x.set(&s, n)
				expectGood(t, x.what, s)
			}
			for _, n := range append(x.no, -2, -255, -1<<32+1, -1<<40+1, 1<<62+1, math.MinInt, math.MinInt+1, math.MinInt+2, math.MaxInt-1, math.MaxInt) {
				x.set(&s, n)
				expectBad(t, x.what, s)
			}
		}
	}
}

// noLayouts returns layouts that are not well-formed, each like l but for one number, and the zero Layout.
func noLayouts(l api.Layout) []api.Layout {
	all := []api.Layout{{}}
	for _, id := range []int{-1, 0, 1 << 32, 1<<32 + l.ID, math.MinInt + l.ID, math.MaxInt} {
		all = append(all, layout(id, l.Version, l.RegionSectors, l.Regions))
	}
	for _, version := range []int{-1, 0, 3, 256 + l.Version, math.MinInt + l.Version, math.MaxInt} {
		all = append(all, layout(l.ID, version, l.RegionSectors, l.Regions))
	}
	for _, sectors := range []int{-4, -1, 0, 1, 3, 5, 2047, 2049, 4095, 4096, 1 << 32, 1 << 62, math.MinInt, math.MaxInt} {
		all = append(all, layout(l.ID, l.Version, sectors, l.Regions))
	}
	for _, regions := range []int{-1, 0, 3, 17, 256 + l.Regions, math.MinInt + l.Regions, math.MaxInt} {
		all = append(all, layout(l.ID, l.Version, l.RegionSectors, regions))
	}
	return all
}

func TestLayoutsThatAreNotWellFormed(t *testing.T) {
	for _, s := range ordinary() {
		for _, l := range noLayouts(s.Target) {
			x := clone(s)
			x.Target = l
			expectBad(t, "Target", x)
		}
		if s.Phase == api.PhaseStable {
			continue
		}
		for _, l := range noLayouts(s.Home) {
			x := clone(s)
			x.Home, x.Foreign[0] = l, l
			expectBad(t, "Home", x)
			x.Target = layout(s.Target.ID, l.Version, l.RegionSectors, l.Regions)
			expectBad(t, "Home and Target", x)
		}
	}
	s := ordinary()[2]
	for _, l := range noLayouts(s.Foreign[1]) {
		x := clone(s)
		x.Foreign[1] = l
		expectBad(t, "the second foreign layout", x)
	}
}

func TestStable(t *testing.T) {
	s := ordinary()[0]
	other := layout(4, 2, 8, 7)
	for _, migration := range []int{0, 1, 1<<32 - 1} {
		x := clone(s)
		x.Migration = migration
		expectGood(t, "stable", x)
		x.Foreign = []api.Layout{}
		expectGood(t, "stable, with an empty list", x)
	}
	for _, home := range []api.Layout{s.Target, other, layout(1, 0, 0, 0), layout(0, 1, 0, 0), layout(0, 0, 1, 0), layout(0, 0, 4, 0), layout(0, 0, 0, 4), layout(0, 0, math.MinInt, 0), layout(1<<32, 256, 0, 256)} {
		x := clone(s)
		x.Home = home
		expectBad(t, "stable, with a Home", x)
		x.Foreign = []api.Layout{home}
		expectBad(t, "stable, with a Home as foreign layout", x)
	}
	for _, foreign := range [][]api.Layout{{{}}, {s.Target}, {other}, {other, s.Target}, {{}, {}}, make([]api.Layout, 256)} {
		x := clone(s)
		x.Foreign = foreign
		expectBad(t, "stable, with foreign layouts", x)
	}
}

func TestMigrating(t *testing.T) {
	s := ordinary()[1]
	other := layout(9, 2, 8, 7)
	for _, target := range []api.Layout{layout(4, 1, 4, 6), layout(2, 1, 4, 6), layout(1, 2, 4, 6), layout(1<<32-1, 1, 8, 6), layout(4, 1, 4, 7), layout(4, 2, 2048, 16)} {
		x := clone(s)
		x.Target = target
		expectGood(t, "migrating", x)
		x.Target.ID = x.Home.ID
		expectBad(t, "migrating, with equal IDs", x)
		x.Target, x.Migration = target, 0
		expectBad(t, "migrating, with the number 0", x)
	}
	for _, foreign := range [][]api.Layout{nil, {}, {{}}, {other}, {s.Target}, {s.Home, s.Home}, {s.Home, other}, {other, s.Home}, {s.Home, {}}, slices.Repeat([]api.Layout{s.Home}, 257),
		{layout(9, 1, 4, 6)}, {layout(3, 2, 4, 6)}, {layout(3, 1, 8, 6)}, {layout(3, 1, 4, 7)}} {
		x := clone(s)
		x.Foreign = foreign
		expectBad(t, "migrating, with other foreign layouts", x)
	}
	for _, home := range []api.Layout{{}, other, s.Target, layout(9, 1, 4, 6), layout(3, 2, 4, 6), layout(3, 1, 8, 6), layout(3, 1, 4, 7)} {
		x := clone(s)
		x.Home = home
		expectBad(t, "migrating, with another Home", x)
	}
}

func TestReturning(t *testing.T) {
	s := ordinary()[2]
	for _, second := range []api.Layout{layout(4, 2, 8, 7), layout(4, 1, 4, 6), layout(1, 1, 2, 4), layout(1<<32-1, 2, 2048, 16)} {
		x := clone(s)
		x.Foreign[1] = second
		expectGood(t, "returning", x)
		x.Target.ID, x.Foreign[1].ID = second.ID, 5
		expectGood(t, "returning, with other IDs", x)
		x.Migration = 0
		expectBad(t, "returning, with the number 0", x)
	}
	for _, target := range []api.Layout{layout(5, 2, 4, 6), layout(5, 1, 8, 6), layout(5, 1, 2, 6), layout(5, 1, 4, 7), layout(5, 1, 4, 5), layout(5, 2, 8, 7), layout(3, 1, 4, 6), layout(4, 1, 4, 6), s.Foreign[1]} {
		x := clone(s)
		x.Target = target
		expectBad(t, "returning, with another Target", x)
	}
	for _, second := range []api.Layout{{}, s.Home, s.Target, layout(3, 2, 8, 7), layout(5, 2, 8, 7)} {
		x := clone(s)
		x.Foreign[1] = second
		expectBad(t, "returning, with another second layout", x)
	}
	second := s.Foreign[1]
	for _, foreign := range [][]api.Layout{nil, {}, {s.Home}, {second}, {second, s.Home}, {second, second}, {s.Home, second, layout(9, 2, 8, 7)}, {s.Home, second, {}}, {{}, second},
		append([]api.Layout{s.Home}, slices.Repeat([]api.Layout{second}, 257)...), {s.Target, second},
		{layout(9, 1, 4, 6), second}, {layout(3, 2, 4, 6), second}, {layout(3, 1, 8, 6), second}, {layout(3, 1, 4, 7), second}} {
		x := clone(s)
		x.Foreign = foreign
		expectBad(t, "returning, with other foreign layouts", x)
	}
	for _, home := range []api.Layout{{}, second, s.Target, layout(9, 1, 4, 6), layout(3, 2, 4, 6), layout(3, 1, 8, 6), layout(3, 1, 4, 7)} {
		x := clone(s)
		x.Home = home
		expectBad(t, "returning, with another Home", x)
	}
}

func TestSuperblocksOfOtherPhases(t *testing.T) {
	for _, s := range ordinary() {
		for phase := api.PhaseStable; phase <= api.PhaseReturning; phase++ {
			x := clone(s)
			x.Phase = phase
			if phase == s.Phase {
				expectGood(t, "the phase of the superblock", x)
			} else {
				expectBad(t, "another phase", x)
			}
		}
	}
	expectBad(t, "the zero Super", api.Super{})
}

func TestValidSuperblocks(t *testing.T) {
	for i, s := range superblocks() {
		expectGood(t, "valid", s)
		for _, sector := range []int{0, sectors[i%len(sectors)], 1048575} {
			want := slow(s, sector)
			expectSector(t, s, sector, want)
			expectSuper(t, want, sector, s)
		}
	}
}

// TestEqual compares superblocks that differ in one field each, also ones that are not valid.
func TestEqual(t *testing.T) {
	changes := []func(s *api.Super, n int){
		func(s *api.Super, n int) { s.Gen += n },
		func(s *api.Super, n int) { s.Phase += n },
		func(s *api.Super, n int) { s.Migration += n },
		func(s *api.Super, n int) { s.Tail += n },
		func(s *api.Super, n int) { s.Now += n },
		func(s *api.Super, n int) { s.Target.ID += n },
		func(s *api.Super, n int) { s.Target.Version += n },
		func(s *api.Super, n int) { s.Target.RegionSectors += n },
		func(s *api.Super, n int) { s.Target.Regions += n },
		func(s *api.Super, n int) { s.Home.ID += n },
		func(s *api.Super, n int) { s.Home.Version += n },
		func(s *api.Super, n int) { s.Home.RegionSectors += n },
		func(s *api.Super, n int) { s.Home.Regions += n },
	}
	for i := range 3 {
		changes = append(changes,
			func(s *api.Super, n int) { s.Foreign[i].ID += n },
			func(s *api.Super, n int) { s.Foreign[i].Version += n },
			func(s *api.Super, n int) { s.Foreign[i].RegionSectors += n },
			func(s *api.Super, n int) { s.Foreign[i].Regions += n })
	}
	bases := append(ordinary(), api.Super{})
	bases[2].Foreign = append(bases[2].Foreign, layout(8, 1, 2, 5))
	for _, s := range bases {
		if !Equal(s, s) || !Equal(s, clone(s)) || !Equal(clone(s), s) {
			t.Errorf("Equal(%+v) of the same is false", s)
		}
		for i, change := range changes[:13+4*len(s.Foreign)] {
			for _, n := range []int{1, -1, 256, 1 << 32, 1 << 40, 1 << 48, math.MinInt} {
				x := clone(s)
				change(&x, n)
				if Equal(s, x) || Equal(x, s) || !Equal(x, clone(x)) {
					t.Errorf("change %d by %d: Equal(%+v, %+v) is true", i, n, s, x)
				}
			}
		}
	}
}

func TestEqualOfForeignLayouts(t *testing.T) {
	a, b := layout(3, 1, 4, 6), layout(4, 2, 8, 7)
	lists := [][]api.Layout{nil, {{}}, {a}, {b}, {{}, {}}, {a, a}, {a, b}, {b, a}, {b, b}, {a, {}}, {{}, a}, {a, b, {}}, {a, b, a}, {a, b, b}, slices.Repeat([]api.Layout{a}, 256), slices.Repeat([]api.Layout{a}, 257)}
	for _, s := range append(ordinary(), api.Super{}) {
		for i := range lists {
			for j := range lists {
				x, y := s, s
				x.Foreign, y.Foreign = slices.Clone(lists[i]), append(make([]api.Layout, 0, 300), lists[j]...)
				if Equal(x, y) != (i == j) {
					t.Errorf("Equal of the lists %v and %v = %v", lists[i], lists[j], Equal(x, y))
				}
			}
		}
	}
}

func TestEqualOfAll(t *testing.T) {
	all := superblocks()
	for _, a := range all {
		for _, b := range all {
			if Equal(a, b) != isSame(a, b) {
				t.Errorf("Equal(%+v, %+v) = %v", a, b, Equal(a, b))
			}
		}
	}
}

func TestNilAndEmptyAreEquivalent(t *testing.T) {
	s := ordinary()[0]
	empty, cut := s, s
	empty.Foreign, cut.Foreign = []api.Layout{}, []api.Layout{layout(9, 1, 2, 4)}[:0]
	for _, x := range []api.Super{s, empty, cut} {
		for _, y := range []api.Super{s, empty, cut} {
			if !Equal(x, y) {
				t.Errorf("Equal(%+v, %+v) is false", x, y)
			}
		}
		expectGood(t, "no foreign layouts", x)
	}
	for _, sector := range slices.Concat(sectors, noSectors) {
		expectNone(t, "nil", nil, sector)
		expectNone(t, "nothing", []byte{}, sector)
		expectNone(t, "nothing of a superblock", slow(s, 1)[:0], sector)
	}
}

// TestErrorsOfEncode combines superblocks that are valid and that are not with sectors that frames take and that they refuse.
func TestErrorsOfEncode(t *testing.T) {
	for _, s := range superblocks() {
		for _, sector := range noSectors {
			expectErrno(t, s, sector, api.ErrRange)
		}
		bad := []api.Super{clone(s), clone(s), clone(s), clone(s)}
		bad[0].Gen = 0
		bad[1].Phase = 4
		bad[2].Target = api.Layout{}
		bad[3].Foreign = append(bad[3].Foreign, layout(9, 1, 2, 4))
		for _, x := range append(bad, api.Super{}) {
			for _, sector := range slices.Concat(sectors, noSectors) {
				expectErrno(t, x, sector, api.ErrForm)
			}
		}
	}
}

// TestDecodeForSectorsThatFramesRefuse seals superblocks for them, by the bytes that Encode would return.
func TestDecodeForSectorsThatFramesRefuse(t *testing.T) {
	for _, s := range superblocks() {
		for _, sector := range noSectors {
			expectNone(t, "no sector", slow(s, sector), sector)
		}
	}
}

func TestDecodeForOtherSectors(t *testing.T) {
	for i, s := range superblocks() {
		sector := sectors[i%len(sectors)]
		b := slow(s, sector)
		for _, other := range slices.Concat(sectors, noSectors) {
			if other != sector {
				expectNone(t, "another sector", b, other)
			}
		}
		for bit := range 64 {
			expectNone(t, "a sector with another bit", b, sector^1<<bit)
		}
	}
}

func TestDecodeOfOtherLengths(t *testing.T) {
	for _, x := range known {
		whole := append(slow(x.s, x.sector), make([]byte, 64)...)
		for n := range len(whole) + 1 {
			if n != 64 {
				expectNone(t, "cut or longer", whole[:n], x.sector)
			}
		}
		expectSuper(t, whole[:64], x.sector, x.s)
		expectNone(t, "without its first byte", whole[1:64], x.sector)
		expectNone(t, "behind another byte", append([]byte{0}, whole[:64]...), x.sector)
		expectNone(t, "shifted", append([]byte{0}, whole[:63]...), x.sector)
		expectNone(t, "twice", slices.Concat(whole[:64], whole[:64]), x.sector)
		expectNone(t, "very long", append(whole, make([]byte, 1<<16)...), x.sector)
		expectNone(t, "the payload alone", numbers(x.s), x.sector)
	}
}

func TestDecodeOfChangedBytes(t *testing.T) {
	for _, x := range known {
		b := slow(x.s, x.sector)
		for i := range b {
			for change := 1; change < 256; change++ {
				b[i] ^= byte(change)
				expectNone(t, "a changed byte", b, x.sector)
				b[i] ^= byte(change)
			}
		}
		expectSuper(t, b, x.sector, x.s)
	}
}

// TestDecodeOfOtherFrames seals the payloads of superblocks in frames of every other kind, and with other salts.
func TestDecodeOfOtherFrames(t *testing.T) {
	for _, x := range known {
		for kind := range 256 {
			if kind != 3 {
				expectNone(t, "another kind", seal(kind, 0, x.sector, numbers(x.s)), x.sector)
			}
		}
		for _, salt := range []int{1, 2, 255, 256, 1 << 32, math.MaxInt, -1, math.MinInt, x.s.Gen, x.s.Target.ID, x.sector + 1} {
			expectNone(t, "another salt", seal(3, salt, x.sector, numbers(x.s)), x.sector)
		}
	}
}

// TestDecodeOfForgedBytes seals every value of every byte of a payload.
func TestDecodeOfForgedBytes(t *testing.T) {
	for _, x := range known {
		p := numbers(x.s)
		for i := range p {
			for change := range 256 {
				p[i] ^= byte(change)
				expectPayload(t, p, x.sector)
				p[i] ^= byte(change)
			}
		}
	}
}

// TestDecodeOfForgedPhases seals payloads with every phase and number of foreign layouts, whatever the layouts are.
func TestDecodeOfForgedPhases(t *testing.T) {
	home, second := layoutBytes(layout(3, 1, 4, 6)), layoutBytes(layout(4, 2, 8, 7))
	for _, x := range known {
		for phase := range 5 {
			for _, foreign := range []byte{0, 1, 2, 3, 4, 128, 255} {
				for _, layouts := range [][]byte{make([]byte, 14), slices.Concat(home, make([]byte, 7)), slices.Concat(home, second), slices.Concat(make([]byte, 7), second), slices.Concat(home, home), slices.Concat(second, home)} {
					p := numbers(x.s)
					p[phaseAt], p[foreignAt] = byte(phase), foreign
					expectPayload(t, p, x.sector)
					copy(p[homeAt:], layouts[:7])
					copy(p[secondAt:], layouts[7:])
					expectPayload(t, p, x.sector)
					p[58] = 1
					expectNone(t, "a forged phase, and a rest that is not 0", seal(3, 0, x.sector, p), x.sector)
				}
			}
		}
	}
}

// TestDecodeOfForgedLayouts seals every exponent in the place of each layout, with a layout that is otherwise empty or not.
func TestDecodeOfForgedLayouts(t *testing.T) {
	for _, x := range known {
		for _, at := range []int{21, homeAt, secondAt} {
			for k := range 256 {
				for _, l := range [][]byte{{0, 0, 0, 0, 0, byte(k), 0}, {0, 0, 0, 9, 1, byte(k), 6}, {0, 0, 0, 9, 0, byte(k), 0}, {0, 0, 0, 0, 1, byte(k), 6}} {
					p := numbers(x.s)
					copy(p[at:], l)
					expectPayload(t, p, x.sector)
				}
			}
		}
	}
}

// TestDecodeOfForgedRests seals payloads with one byte that is not 0 behind what the superblock needs.
func TestDecodeOfForgedRests(t *testing.T) {
	for _, x := range known {
		from := []int{homeAt, secondAt, used}[x.s.Phase-1]
		for i := from; i < 59; i++ {
			for _, change := range []byte{1, 2, 64, 128, 255} {
				p := numbers(x.s)
				p[i] = change
				expectNone(t, "a rest that is not 0", seal(3, 0, x.sector, p), x.sector)
			}
		}
		expectNone(t, "a rest of noise", seal(3, 0, x.sector, append(numbers(x.s)[:from], noise(59-from, 3)...)), x.sector)
		expectSuper(t, seal(3, 0, x.sector, numbers(x.s)[:from]), x.sector, x.s)
	}
}

// TestDecodeOfForgedNumbers seals superblocks that are not valid, although their numbers fit into their bytes.
func TestDecodeOfForgedNumbers(t *testing.T) {
	for i, s := range superblocks() {
		sector := sectors[i%len(sectors)]
		for _, change := range []func(x *api.Super){
			func(x *api.Super) { x.Gen = 0 },
			func(x *api.Super) { x.Phase = 0 },
			func(x *api.Super) { x.Phase = 4 },
			func(x *api.Super) { x.Phase = 255 },
			func(x *api.Super) { x.Phase = x.Phase%3 + 1 },
			func(x *api.Super) { x.Now = 1<<39 + 1 },
			func(x *api.Super) { x.Now = 1<<40 - 1 },
			func(x *api.Super) { x.Target.ID = 0 },
			func(x *api.Super) { x.Target.Version = 0 },
			func(x *api.Super) { x.Target.Version = 3 },
			func(x *api.Super) { x.Target.RegionSectors = 1 },
			func(x *api.Super) { x.Target.RegionSectors = 4096 },
			func(x *api.Super) { x.Target.Regions = 3 },
			func(x *api.Super) { x.Target.Regions = 17 },
			func(x *api.Super) { x.Target = api.Layout{} },
			func(x *api.Super) { x.Home.Regions = 17 },
			func(x *api.Super) { x.Home.ID = x.Target.ID },
			func(x *api.Super) { x.Foreign = append(x.Foreign, layout(9, 1, 2, 4)) },
			func(x *api.Super) { x.Foreign = append(x.Foreign, api.Layout{}, api.Layout{}, api.Layout{}) },
		} {
			bad := clone(s)
			change(&bad)
			expectNone(t, "forged numbers", slow(bad, sector), sector)
		}
		if s.Phase != api.PhaseStable {
			bad := clone(s)
			bad.Migration = 0
			expectNone(t, "the number 0", slow(bad, sector), sector)
			bad = clone(s)
			bad.Foreign = bad.Foreign[1:]
			expectNone(t, "a foreign layout less", slow(bad, sector), sector)
		}
	}
	expectNone(t, "zeros", seal(3, 0, 1, nil), 1)
	expectNone(t, "ones", seal(3, 0, 1, bytes.Repeat([]byte{255}, 59)), 1)
}

func TestDecodeOfArbitraryBytes(t *testing.T) {
	for _, sector := range slices.Concat(sectors, noSectors) {
		for n := range 130 {
			expectNone(t, "zeros", make([]byte, n), sector)
			expectNone(t, "ones", bytes.Repeat([]byte{255}, n), sector)
			b := noise(n, uint32(n))
			expectNone(t, "noise", b, sector)
			if n > 0 {
				b[0] = 3
				expectNone(t, "noise behind a kind", b, sector)
			}
		}
	}
	for seed := range 1000 {
		expectPayload(t, noise(59, uint32(seed)), 1)
	}
}

// TestCallsLeaveForeignAlone has foreign layouts with others before and behind them in the same memory.
func TestCallsLeaveForeignAlone(t *testing.T) {
	for _, s := range append(ordinary(), api.Super{Foreign: []api.Layout{{ID: 7}}}) {
		whole := slices.Concat([]api.Layout{layout(11, 1, 2, 4)}, s.Foreign, []api.Layout{layout(12, 2, 2, 4), layout(13, 2, 2, 4)})
		old := slices.Clone(whole)
		x := s
		x.Foreign = whole[1 : 1+len(s.Foreign)]
		if Valid(x) != Valid(s) || !Equal(x, s) || !Equal(s, x) {
			t.Errorf("%+v is another superblock with spare capacity", s)
		}
		b, e := Encode(x, 1)
		Encode(x, -1)
		clear(b[:cap(b)])
		if !slices.Equal(whole, old) {
			t.Errorf("a call changes %+v, or what surrounds its foreign layouts", s)
		}
		b, _ = Encode(x, 1)
		clear(whole)
		if e == api.OK && !bytes.Equal(b, slow(s, 1)) {
			t.Errorf("a result of Encode of %+v shares memory with it", s)
		}
	}
}

// TestCallsKeepNothing changes the foreign layouts after a call.
func TestCallsKeepNothing(t *testing.T) {
	s := ordinary()[2]
	x := clone(s)
	expectGood(t, "before", x)
	x.Foreign[1] = layout(77, 1, 16, 9)
	expectGood(t, "after a change", x)
	if Equal(s, x) {
		t.Error("Equal does not see a change")
	}
	x.Foreign[0].Regions = 9
	expectBad(t, "after another change", x)
}

func TestResultsOfEncodeShareNoMemory(t *testing.T) {
	for _, x := range known {
		first, _ := Encode(x.s, x.sector)
		second, _ := Encode(x.s, x.sector)
		clear(second[:cap(second)])
		if !bytes.Equal(first, slow(x.s, x.sector)) {
			t.Errorf("a result of Encode(%+v, %d) shares memory with another one", x.s, x.sector)
		}
		expectSector(t, x.s, x.sector, slow(x.s, x.sector))
	}
}

func TestResultsOfDecodeShareNoMemory(t *testing.T) {
	for _, x := range known {
		b := slow(x.s, x.sector)
		first, _ := Decode(b, x.sector)
		second, _ := Decode(b, x.sector)
		clear(second.Foreign[:cap(second.Foreign)])
		if !isSame(first, x.s) {
			t.Errorf("a result of Decode shares memory with another one: %+v, want %+v", first, x.s)
		}
		expectSuper(t, b, x.sector, x.s)
	}
}

func TestDecodeLeavesItsArgumentAlone(t *testing.T) {
	for _, x := range known {
		whole := slices.Concat(noise(10, 6), slow(x.s, x.sector), noise(50, 7))
		old := bytes.Clone(whole)
		got, ok := Decode(whole[10:74], x.sector)
		Decode(whole[10:74], x.sector+1)
		Decode(whole[10:74], -1)
		Decode(whole[10:73], x.sector)
		Decode(whole[10:75], x.sector)
		Decode(whole, x.sector)
		clear(got.Foreign[len(got.Foreign):cap(got.Foreign)])
		if !bytes.Equal(whole, old) {
			t.Error("Decode changes its argument, or what surrounds it")
		}
		clear(whole)
		if !ok || !isSame(got, x.s) {
			t.Errorf("Decode = %+v, %v; want %+v", got, ok, x.s)
		}
		expectNone(t, "the same memory, cleared", whole[10:74], x.sector)
	}
}

func TestCallsDependOnNothingElse(t *testing.T) {
	for _, x := range known {
		want := slow(x.s, x.sector)
		for range 3 {
			expectSector(t, x.s, x.sector, want)
			expectSuper(t, want, x.sector, x.s)
			Encode(ordinary()[2], 96)
			expectErrno(t, api.Super{}, 0, api.ErrForm)
			expectNone(t, "in between", noise(64, 1), x.sector)
		}
	}
}
