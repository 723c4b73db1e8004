package admit

import (
	"bytes"
	"fmt"
	"math"
	"math/big"
	"math/rand/v2"
	"slices"
	"testing"

	"flashcache/api"
	"flashcache/geometry"
	"flashcache/packer"
	"flashcache/record"
)

// The limits of the document, written out.
const (
	maxExpiry1 = 4294967295
	maxExpiry2 = 1099511627775
	maxNow     = 549755813888
)

// sizes and capacities are the numbers of sectors that a region may have, and the bytes of data that it has then.
var (
	sizes      = []int{2, 4, 8, 16, 32, 64, 128, 256, 512, 1024, 2048}
	capacities = []int{59, 177, 413, 885, 1829, 3717, 7493, 15045, 30149, 60357, 120773}
)

// times are times of all kinds, also ones that do not exist.
var times = []int{
	math.MinInt, math.MinInt + 1, -maxNow, -maxExpiry1 - 1, -2, -1, 0, 1, 2, 7, 1 << 31, maxExpiry1 - 1, maxExpiry1, maxExpiry1 + 1,
	maxNow - 1, maxNow, maxNow + 1, maxExpiry2, maxExpiry2 + 1, 1 << 62, math.MaxInt - 1, math.MaxInt,
}

// ttls are times to live of all kinds, also ones that do not exist, and ones that overflow when a time is added.
var ttls = []int{
	math.MinInt, math.MinInt + 1, -maxExpiry2, -maxNow, -2, -1, 0, 1, 2, 5, maxExpiry1 - 7, maxExpiry1 - 6, maxExpiry1 - 1, maxExpiry1, maxExpiry1 + 1,
	maxExpiry2 - maxNow - 1, maxExpiry2 - maxNow, maxExpiry2 - maxNow + 1, maxNow, maxNow + 1, maxExpiry2 - 7, maxExpiry2 - 6, maxExpiry2 - 1, maxExpiry2, maxExpiry2 + 1,
	1 << 62, math.MaxInt - maxNow, math.MaxInt - maxNow + 1, math.MaxInt - 1, math.MaxInt,
}

// errors are those of Check in the order of the chapter.
var errors = []api.Errno{api.ErrForm, api.ErrRange, api.ErrKey, api.ErrValue, api.ErrExpiry, api.ErrFit}

// call has the arguments of Check.
type call struct {
	l          api.Layout
	now        int
	key, value []byte
	ttl        int
}

func (c call) String() string {
	return fmt.Sprintf("Check(%+v, %d, key of %d, value of %d, %d)", c.l, c.now, len(c.key), len(c.value), c.ttl)
}

// record returns what is written of an accepted value.
func (c call) record(expiry int) api.Record {
	return api.Record{Kind: 1, Key: c.key, Value: c.value, Expiry: expiry}
}

func layout(id, version, sectors, regions int) api.Layout {
	return api.Layout{ID: id, Version: version, RegionSectors: sectors, Regions: regions}
}

// layouts returns well-formed layouts of all sizes in both formats, with the least and the greatest IDs and numbers of regions.
func layouts() []api.Layout {
	var all []api.Layout
	for i, n := range sizes {
		for version := 1; version <= 2; version++ {
			all = append(all, layout(1, version, n, 4), layout(1<<32-1, version, n, 16), layout(258+i, version, n, 4+i))
		}
	}
	return all
}

// noLayouts returns layouts that are not well-formed, each like l but for one number, and the zero Layout.
func noLayouts(l api.Layout) []api.Layout {
	all := []api.Layout{{}}
	for _, id := range []int{math.MinInt, math.MinInt + l.ID, -1, 0, 1 << 32, 1<<32 + l.ID, math.MaxInt} {
		all = append(all, layout(id, l.Version, l.RegionSectors, l.Regions))
	}
	for _, version := range []int{math.MinInt, math.MinInt + l.Version, -1, 0, 3, 256 + l.Version, 1<<32 + l.Version, math.MaxInt} {
		all = append(all, layout(l.ID, version, l.RegionSectors, l.Regions))
	}
	for _, n := range []int{math.MinInt, math.MinInt + 2, -2048, -2, -1, 0, 1, 3, 5, 6, 2047, 2049, 3072, 4096, 1<<32 + 2, 1 << 62, math.MaxInt} {
		all = append(all, layout(l.ID, l.Version, n, l.Regions))
	}
	for _, regions := range []int{math.MinInt, math.MinInt + l.Regions, -4, -1, 0, 1, 3, 17, 256 + l.Regions, 1 << 32, math.MaxInt} {
		all = append(all, layout(l.ID, l.Version, l.RegionSectors, regions))
	}
	return all
}

// noise returns n bytes without a visible pattern, the same ones each time.
func noise(n int, seed uint32) []byte {
	b := make([]byte, n)
	for i := range b {
		seed = seed*1664525 + 1013904223
		b[i] = byte(seed >> 24)
	}
	return b
}

// capacityOf returns the bytes of data of a region of l, or 0 if l is not well-formed.
func capacityOf(l api.Layout) int {
	i := slices.Index(sizes, l.RegionSectors)
	if i < 0 || l.ID < 1 || l.ID > 4294967295 || l.Version < 1 || l.Version > 2 || l.Regions < 4 || l.Regions > 16 {
		return 0
	}
	return capacities[i]
}

// slow returns the Expiry of c, and all errors that apply to it, each one without regard to the others. It adds numbers that do not overflow.
func slow(c call) (int, []api.Errno) {
	sum := new(big.Int)
	if c.ttl != 0 {
		sum.Add(big.NewInt(int64(c.now)), big.NewInt(int64(c.ttl)))
	}
	most := map[int]*big.Int{1: big.NewInt(maxExpiry1), 2: big.NewInt(maxExpiry2)}[c.l.Version]
	applies := []bool{
		capacityOf(c.l) == 0,
		c.now < 0 || c.now > maxNow || c.ttl < 0,
		len(c.key) == 0 || len(c.key) > 255,
		len(c.value) > 65536,
		most != nil && sum.Cmp(most) > 0,
		16+len(c.key)+len(c.value) > capacityOf(c.l),
	}
	var all []api.Errno
	for i, e := range errors {
		if applies[i] {
			all = append(all, e)
		}
	}
	return int(sum.Int64()), all
}

// expect reports an error unless Check of c returns these.
func expect(t *testing.T, c call, want int, e api.Errno) {
	t.Helper()
	if got, gotE := Check(c.l, c.now, c.key, c.value, c.ttl); got != want || gotE != e {
		t.Errorf("%v = %d and the error %d, want %d and %d", c, got, gotE, want, e)
	}
}

// expectSlow reports an error unless Check of c returns what slow says, and returns the errors that apply.
func expectSlow(t *testing.T, c call) []api.Errno {
	t.Helper()
	want, all := slow(c)
	if len(all) > 0 {
		expect(t, c, 0, all[0])
	} else {
		expect(t, c, want, api.OK)
	}
	return all
}

// expectRecord reports an error unless Check accepts c and its record can be encoded for l, and found again, in a region that has no other.
func expectRecord(t *testing.T, c call) {
	t.Helper()
	expiry, e := Check(c.l, c.now, c.key, c.value, c.ttl)
	if e != api.OK {
		t.Errorf("%v: error %d", c, e)
		return
	}
	r := c.record(expiry)
	b, e := record.Encode(c.l.Version, api.MaxSeq, 0, r)
	if e != api.OK || len(b) > geometry.Capacity(c.l) {
		t.Errorf("%v: its record has %d bytes, error %d", c, len(b), e)
	}
	again, n, ok := record.Decode(c.l.Version, api.MaxSeq, 0, b)
	if !ok || n != len(b) || again.Expiry != expiry || !bytes.Equal(again.Key, c.key) || !bytes.Equal(again.Value, c.value) {
		t.Errorf("%v: its record is not found again", c)
	}
	p, e := packer.New(c.l, 0, 1)
	if e != api.OK {
		t.Fatalf("packer.New: error %d", e)
	}
	if off, n, e := p.Put(r); off != 0 || n != len(b) || e != api.OK {
		t.Errorf("%v: its record cannot be put into a region: error %d", c, e)
	}
}

func TestExampleOfTheChapter(t *testing.T) {
	for version := 1; version <= 2; version++ {
		l, key := layout(3, version, 2, 4), []byte("key")
		expect(t, call{l, 0, key, make([]byte, 40), 0}, 0, api.OK)
		expect(t, call{l, 0, key, make([]byte, 41), 0}, 0, api.ErrFit)
		expect(t, call{l, 7, key, make([]byte, 40), 5}, 12, api.OK)
		expect(t, call{l, 7, key, make([]byte, 41), 5}, 0, api.ErrFit)
		if n := record.Length(call{key: key, value: make([]byte, 40)}.record(0)); n != 59 {
			t.Errorf("the record has %d bytes", n)
		}
	}
}

func TestExpiries(t *testing.T) {
	for _, l := range layouts() {
		for _, x := range []struct{ now, ttl, want int }{
			{0, 0, 0}, {0, 1, 1}, {1, 1, 2}, {0, 5, 5}, {4, 5, 9}, {5, 4, 9}, {7, 5, 12}, {1, 2, 3}, {1000, 1, 1001}, {1 << 31, 1 << 30, 3221225472},
			{0, maxExpiry1, maxExpiry1}, {1, maxExpiry1 - 1, maxExpiry1}, {maxExpiry1 - 1, 1, maxExpiry1}, {maxExpiry1 - 2, 1, maxExpiry1 - 1}, {1 << 31, 1<<31 - 1, maxExpiry1},
		} {
			expect(t, call{l, x.now, []byte("key"), []byte("value"), x.ttl}, x.want, api.OK)
		}
	}
	for _, x := range []struct{ now, ttl, want int }{
		{0, maxExpiry1 + 1, 4294967296}, {1, maxExpiry1, 4294967296}, {maxExpiry1, 1, 4294967296}, {maxNow, 1, 549755813889}, {maxNow, maxNow - 1, 1099511627775},
		{0, maxExpiry2, 1099511627775}, {1, maxExpiry2 - 1, 1099511627775}, {1, maxExpiry2 - 2, 1099511627774},
	} {
		expect(t, call{layout(3, 2, 2, 4), x.now, []byte("key"), []byte("value"), x.ttl}, x.want, api.OK)
		expect(t, call{layout(3, 1, 2, 4), x.now, []byte("key"), []byte("value"), x.ttl}, 0, api.ErrExpiry)
	}
}

// TestGreatestExpiries has, for each time, what brings it to the greatest Expiry of each format, one less and one more.
func TestGreatestExpiries(t *testing.T) {
	for _, now := range []int{0, 1, 2, 255, 1000000, 1 << 31, maxExpiry1 - 3, maxExpiry1 - 2, maxExpiry1 - 1, maxExpiry1, maxExpiry1 + 1, maxNow - 1, maxNow} {
		for version, most := range map[int]int{1: maxExpiry1, 2: maxExpiry2} {
			l := layout(3, version, 4, 6)
			for _, ttl := range []int{most - now - 1, most - now} {
				if ttl > 0 {
					expect(t, call{l, now, []byte("k"), nil, ttl}, now+ttl, api.OK)
				}
			}
			for _, ttl := range []int{most - now + 1, most - now + 2, most + 1, 2 * most, 1 << 62, math.MaxInt - now - 1, math.MaxInt - now, math.MaxInt - now + 1, math.MaxInt - 1, math.MaxInt} {
				if ttl > 0 {
					expect(t, call{l, now, []byte("k"), nil, ttl}, 0, api.ErrExpiry)
				}
			}
		}
	}
}

// TestWithoutATimeToLive has the ttl 0: the value does not expire, also at times that no Expiry of format 1 reaches.
func TestWithoutATimeToLive(t *testing.T) {
	for _, l := range layouts() {
		for _, now := range times {
			c := call{l, now, []byte("k"), []byte("v"), 0}
			if now >= 0 && now <= maxNow {
				expect(t, c, 0, api.OK)
			} else {
				expect(t, c, 0, api.ErrRange)
			}
		}
	}
}

func TestTimes(t *testing.T) {
	for version := 1; version <= 2; version++ {
		for _, x := range []struct {
			now, ttl int
			want     int
			e        api.Errno
		}{
			{math.MinInt, 0, 0, api.ErrRange}, {math.MinInt, 1, 0, api.ErrRange}, {math.MinInt, math.MinInt, 0, api.ErrRange}, {math.MinInt, math.MaxInt, 0, api.ErrRange},
			{-1, 0, 0, api.ErrRange}, {-1, 1, 0, api.ErrRange}, {-1, 5, 0, api.ErrRange}, {-1, -1, 0, api.ErrRange}, {-1, math.MaxInt, 0, api.ErrRange},
			{0, -1, 0, api.ErrRange}, {0, math.MinInt, 0, api.ErrRange}, {5, -1, 0, api.ErrRange}, {5, -5, 0, api.ErrRange}, {5, -6, 0, api.ErrRange},
			{maxNow, -1, 0, api.ErrRange}, {maxNow, -maxNow, 0, api.ErrRange}, {maxNow, math.MinInt, 0, api.ErrRange},
			{0, 0, 0, api.OK}, {0, 1, 1, api.OK}, {1, 0, 0, api.OK}, {1, 1, 2, api.OK}, {maxNow - 1, 0, 0, api.OK}, {maxNow, 0, 0, api.OK},
			{maxNow + 1, 0, 0, api.ErrRange}, {maxNow + 1, 1, 0, api.ErrRange}, {maxNow + 1, -1, 0, api.ErrRange}, {maxNow + 1, math.MaxInt, 0, api.ErrRange},
			{math.MaxInt, 0, 0, api.ErrRange}, {math.MaxInt, 1, 0, api.ErrRange}, {math.MaxInt, -1, 0, api.ErrRange}, {math.MaxInt, math.MaxInt, 0, api.ErrRange}, {math.MaxInt, math.MinInt, 0, api.ErrRange},
		} {
			expect(t, call{layout(3, version, 4, 6), x.now, []byte("key"), []byte("value"), x.ttl}, x.want, x.e)
		}
	}
	expect(t, call{layout(3, 1, 4, 6), maxNow, []byte("key"), []byte("value"), 1}, 0, api.ErrExpiry)
	expect(t, call{layout(3, 2, 4, 6), maxNow, []byte("key"), []byte("value"), 1}, maxNow+1, api.OK)
}

// TestKeysAndValues has their lengths in the largest regions, where all records fit.
func TestKeysAndValues(t *testing.T) {
	for version := 1; version <= 2; version++ {
		for _, key := range [][]byte{nil, {}, {0}, []byte("k"), noise(2, 1), noise(254, 2), noise(255, 3), noise(256, 4), noise(257, 5), noise(512, 6), noise(65536, 7)} {
			for _, value := range [][]byte{nil, {}, {0}, []byte("v"), noise(255, 8), noise(65535, 9), noise(65536, 10), noise(65537, 11), noise(65538, 12), noise(1<<17, 13)} {
				c := call{layout(3, version, 2048, 4), 7, key, value, 5}
				switch {
				case len(key) == 0 || len(key) > 255:
					expect(t, c, 0, api.ErrKey)
				case len(value) > 65536:
					expect(t, c, 0, api.ErrValue)
				default:
					expect(t, c, 12, api.OK)
				}
			}
		}
	}
}

// TestCapacity has records that fill a region, one byte less and one byte more, divided between the key and the value in several ways.
func TestCapacity(t *testing.T) {
	for _, l := range layouts() {
		capacity := capacityOf(l)
		if got := geometry.Capacity(l); got != capacity {
			t.Fatalf("geometry.Capacity(%+v) = %d", l, got)
		}
		for _, n := range []int{1, 2, 3, 42, 43, 44, 100, 160, 161, 162, 254, 255} {
			key, value := noise(n, 1), noise(max(0, capacity-16-n+1), 2)
			for _, d := range []int{-1, 0, 1} {
				rest := capacity - 16 - n + d
				if rest < 0 || rest > 65536 {
					continue
				}
				c := call{l, 7, key, value[:rest], 5}
				if d > 0 {
					expect(t, c, 0, api.ErrFit)
				} else {
					expect(t, c, 12, api.OK)
				}
			}
		}
	}
}

// TestKeysThatFillARegion has values of 0 bytes.
func TestKeysThatFillARegion(t *testing.T) {
	for version := 1; version <= 2; version++ {
		for n := 1; n <= 255; n++ {
			e2, e4 := api.OK, api.OK
			if n > 43 {
				e2 = api.ErrFit
			}
			if n > 161 {
				e4 = api.ErrFit
			}
			expect(t, call{layout(3, version, 2, 4), 0, noise(n, 1), nil, 0}, 0, e2)
			expect(t, call{layout(3, version, 4, 4), 0, noise(n, 1), nil, 0}, 0, e4)
			expect(t, call{layout(3, version, 8, 4), 0, noise(n, 1), nil, 0}, 0, api.OK)
		}
	}
}

// TestLongestRecord has the longest key with the longest value, which fit into the largest regions alone.
func TestLongestRecord(t *testing.T) {
	for _, l := range layouts() {
		c := call{l, 7, noise(255, 1), noise(65536, 2), 5}
		if l.RegionSectors == 2048 {
			expect(t, c, 12, api.OK)
		} else {
			expect(t, c, 0, api.ErrFit)
		}
	}
}

func TestLayoutsThatAreNotWellFormed(t *testing.T) {
	for _, l := range layouts() {
		for _, none := range noLayouts(l) {
			expect(t, call{none, 7, []byte("k"), nil, 5}, 0, api.ErrForm)
			expect(t, call{none, 0, []byte("k"), nil, 0}, 0, api.ErrForm)
			expect(t, call{none, -1, nil, make([]byte, 65537), math.MinInt}, 0, api.ErrForm)
			expect(t, call{none, maxNow, nil, nil, math.MaxInt}, 0, api.ErrForm)
		}
		expect(t, call{l, 7, []byte("k"), nil, 5}, 12, api.OK)
	}
}

// TestBoundsOfLayouts has the least and the greatest of each number of a layout, one below and one above it.
func TestBoundsOfLayouts(t *testing.T) {
	for version := 1; version <= 2; version++ {
		for _, x := range []struct {
			l api.Layout
			e api.Errno
		}{
			{layout(0, version, 4, 6), api.ErrForm}, {layout(1, version, 4, 6), api.OK}, {layout(4294967295, version, 4, 6), api.OK}, {layout(4294967296, version, 4, 6), api.ErrForm},
			{layout(3, 0, 4, 6), api.ErrForm}, {layout(3, version, 4, 6), api.OK}, {layout(3, 3, 4, 6), api.ErrForm},
			{layout(3, version, 1, 6), api.ErrForm}, {layout(3, version, 2, 6), api.OK}, {layout(3, version, 3, 6), api.ErrForm},
			{layout(3, version, 2047, 6), api.ErrForm}, {layout(3, version, 2048, 6), api.OK}, {layout(3, version, 2049, 6), api.ErrForm}, {layout(3, version, 4096, 6), api.ErrForm},
			{layout(3, version, 4, 3), api.ErrForm}, {layout(3, version, 4, 4), api.OK}, {layout(3, version, 4, 16), api.OK}, {layout(3, version, 4, 17), api.ErrForm},
		} {
			expect(t, call{x.l, 7, []byte("key"), []byte("value"), 0}, 0, x.e)
		}
	}
}

// defect makes an error apply to a call.
type defect func(c *call)

// defects returns, in the order of errors, in which ways each of them can be brought about.
func defects() [][]defect {
	tooLong := noise(65537, 1)
	return [][]defect{
		{
			func(c *call) { c.l.ID = 0 }, func(c *call) { c.l.ID = 1 << 32 },
			func(c *call) { c.l.Version = 0 }, func(c *call) { c.l.Version = 3 },
			func(c *call) { c.l.RegionSectors = 1 }, func(c *call) { c.l.RegionSectors = 3 }, func(c *call) { c.l.RegionSectors = 2049 }, func(c *call) { c.l.RegionSectors = 4096 },
			func(c *call) { c.l.Regions = 3 }, func(c *call) { c.l.Regions = 17 },
		},
		{
			func(c *call) { c.now = -1 }, func(c *call) { c.now = maxNow + 1 }, func(c *call) { c.now = math.MinInt }, func(c *call) { c.now = math.MaxInt },
			func(c *call) { c.ttl = -1 }, func(c *call) { c.ttl = math.MinInt },
		},
		{func(c *call) { c.key = nil }, func(c *call) { c.key = []byte{} }, func(c *call) { c.key = tooLong[:256] }, func(c *call) { c.key = tooLong }},
		{func(c *call) { c.value = tooLong }},
		{
			func(c *call) { c.ttl = maxExpiry2 - c.now + 1 }, func(c *call) { c.ttl = maxExpiry2 + 2 }, func(c *call) { c.ttl = math.MaxInt },
			func(c *call) { c.l.Version, c.now, c.ttl = 1, maxNow, 1 },
		},
		{
			func(c *call) { c.l.RegionSectors, c.value = 2, tooLong[:60] }, func(c *call) { c.l.RegionSectors, c.value = 4, tooLong[:162] },
			func(c *call) { c.l.RegionSectors, c.value = 1024, tooLong[:65536] },
		},
	}
}

// accepted returns calls that Check accepts, in both formats.
func accepted() []call {
	return []call{
		{layout(3, 1, 2048, 4), 7, []byte("key"), []byte("value"), 5},
		{layout(3, 2, 2048, 4), 7, []byte("key"), []byte("value"), 5},
	}
}

// TestEachErrorAlone starts from values that do not expire, so that a late time is not an ErrExpiry as well.
func TestEachErrorAlone(t *testing.T) {
	for _, base := range accepted() {
		expect(t, base, 12, api.OK)
		base.ttl = 0
		expect(t, base, 0, api.OK)
		for i, ways := range defects() {
			for _, spoil := range ways {
				c := base
				spoil(&c)
				all := expectSlow(t, c)
				expect(t, c, 0, errors[i])
				// Nothing fits into the regions of a layout that is not well-formed.
				if want := []api.Errno{errors[i]}; !slices.Equal(all, want) && !slices.Equal(all, append(want, api.ErrFit)) {
					t.Errorf("%v: the errors %v", c, all)
				}
			}
		}
	}
}

// TestEachPairOfErrors has each pair in all ways: the first one is returned.
func TestEachPairOfErrors(t *testing.T) {
	all := defects()
	for _, base := range accepted() {
		for k := range all {
			for i := range k {
				isSeen := false
				for _, later := range all[k] {
					for _, earlier := range all[i] {
						c := base
						later(&c)
						earlier(&c)
						apply := expectSlow(t, c)
						expect(t, c, 0, errors[i])
						isSeen = isSeen || slices.Contains(apply, errors[i]) && slices.Contains(apply, errors[k])
					}
				}
				if !isSeen {
					t.Errorf("there is no call with the errors %d and %d", errors[i], errors[k])
				}
			}
		}
	}
}

// TestEachSetOfErrors has a way for each one of every set.
func TestEachSetOfErrors(t *testing.T) {
	all := defects()
	for set := 1; set < 1<<len(all); set++ {
		for turn := range 12 {
			for _, c := range accepted() {
				first := api.OK
				for i := len(all) - 1; i >= 0; i-- {
					if set>>i&1 == 1 {
						all[i][turn%len(all[i])](&c)
						first = errors[i]
					}
				}
				expectSlow(t, c)
				expect(t, c, 0, first)
			}
		}
	}
}

// TestAllArguments has every combination of layouts, times, keys, values and times to live of all kinds.
func TestAllArguments(t *testing.T) {
	var all []api.Layout
	for version := 1; version <= 2; version++ {
		all = append(all, layout(3, version, 2, 4), layout(1<<32-1, version, 4, 16), layout(1, version, 1024, 4), layout(258, version, 2048, 5))
		all = append(all, layout(0, version, 4, 4), layout(1<<32, version, 4, 4), layout(3, version, 1, 4), layout(3, version, 6, 4), layout(3, version, 4096, 4), layout(3, version, 4, 3), layout(3, version, 2048, 17))
	}
	all = append(all, layout(3, 0, 4, 4), layout(3, 3, 2048, 4), api.Layout{})
	keys := [][]byte{nil, noise(1, 1), noise(255, 2), noise(256, 3)}
	values := [][]byte{nil, noise(1, 1), noise(42, 2), noise(43, 3), noise(161, 4), noise(60086, 5), noise(60087, 6), noise(65536, 7), noise(65537, 8)}
	for _, l := range all {
		for _, now := range times {
			for _, key := range keys {
				for _, value := range values {
					for _, ttl := range ttls {
						expectSlow(t, call{l, now, key, value, ttl})
					}
				}
			}
		}
	}
}

// TestManyArguments has numbers without a visible pattern, most of them near the bounds.
func TestManyArguments(t *testing.T) {
	random := rand.New(rand.NewPCG(1, 2))
	near := func(all ...int) int { return all[random.IntN(len(all))] + random.IntN(5) - 2 }
	whole := noise(65540, 1)
	for range 300000 {
		l := layout(near(3, 3, 3, 1<<32-3, 1), near(1, 2), sizes[random.IntN(len(sizes))], near(6, 8, 14, 4, 16))
		now := near(2, 7, maxExpiry1, maxNow-2, maxNow, random.IntN(maxNow))
		key := whole[:max(0, near(3, 43, 100, 255, random.IntN(250)))]
		value := whole[:max(0, min(near(2, capacityOf(l)-16-len(key), 65536, random.IntN(65536)), len(whole)))]
		ttl := near(2, 5, maxExpiry1-now, maxExpiry2-now, random.IntN(maxExpiry1), random.IntN(maxExpiry2), math.MaxInt-2)
		expectSlow(t, call{l, now, key, value, ttl})
	}
}

func TestRecordsOfAcceptedValues(t *testing.T) {
	for _, l := range layouts() {
		most := map[int]int{1: maxExpiry1, 2: maxExpiry2}[l.Version]
		for _, n := range []int{1, 3, 43, 255} {
			for _, rest := range []int{0, 1, 40, capacityOf(l) - 16 - n - 1, capacityOf(l) - 16 - n, 65535, 65536} {
				if rest < 0 || rest > 65536 || 16+n+rest > capacityOf(l) {
					continue
				}
				key, value := noise(n, uint32(rest)), noise(rest, uint32(n))
				expectRecord(t, call{l, 0, key, value, 0})
				expectRecord(t, call{l, maxNow, key, value, 0})
				expectRecord(t, call{l, 7, key, value, most - 7})
			}
		}
		for _, x := range [][2]int{{0, 1}, {1, 0}, {4, 5}, {0, most - 1}, {0, most}, {1, most - 1}, {1 << 31, 1<<31 - 1}, {1 << 31, most - 1<<31}} {
			expectRecord(t, call{l, x[0], []byte("k"), []byte("v"), x[1]})
		}
	}
	for _, sectors := range sizes {
		expectRecord(t, call{layout(3, 2, sectors, 4), maxNow, []byte("k"), nil, 1})
		expectRecord(t, call{layout(3, 2, sectors, 4), maxNow, []byte("k"), nil, maxExpiry2 - maxNow})
	}
}

// TestRecordsOfOtherValues has what Check refuses for its key, its value or its Expiry: chapter 5 refuses its record for the same reason.
func TestRecordsOfOtherValues(t *testing.T) {
	for version := 1; version <= 2; version++ {
		for _, key := range [][]byte{nil, noise(1, 1), noise(255, 2), noise(256, 3)} {
			for _, value := range [][]byte{nil, noise(65536, 4), noise(65537, 5)} {
				for _, ttl := range []int{0, 1, maxExpiry1 - 7, maxExpiry1 - 6, maxExpiry2 - 7, maxExpiry2 - 6, maxExpiry2 + 1} {
					c := call{layout(3, version, 2048, 4), 7, key, value, ttl}
					expiry := 0
					if ttl > 0 {
						expiry = 7 + ttl
					}
					e := record.Check(version, c.record(expiry))
					if e != api.OK {
						expiry = 0
					}
					expect(t, c, expiry, e)
				}
			}
		}
	}
}

// TestBytesDoNotMatter has keys and values of other bytes in the same lengths.
func TestBytesDoNotMatter(t *testing.T) {
	for x := range 256 {
		b := bytes.Repeat([]byte{byte(x)}, 41)
		expect(t, call{layout(3, 1, 2, 4), 7, b[:3], b[:40], 5}, 12, api.OK)
		expect(t, call{layout(3, 1, 2, 4), 7, b[:3], b, 5}, 0, api.ErrFit)
		expect(t, call{layout(3, 1, 2, 4), 7, b[:1], nil, 0}, 0, api.OK)
	}
}

// TestArgumentsStayAsTheyAre looks at the memory around the key and the value, too, whatever Check returns.
func TestArgumentsStayAsTheyAre(t *testing.T) {
	whole := noise(200000, 1)
	old := bytes.Clone(whole)
	for _, key := range [][]byte{whole[10:10], whole[10:11], whole[10:265], whole[10:266]} {
		for _, value := range [][]byte{whole[1000:1000], whole[1000:1043], whole[1000:66536], whole[1000:66537], whole[11:30]} {
			for _, l := range []api.Layout{layout(3, 1, 2, 4), layout(3, 2, 2, 4), layout(3, 1, 2048, 4), layout(3, 2, 2048, 4), {}} {
				for _, ttl := range []int{-1, 0, 5, math.MaxInt} {
					c := call{l, 7, key, value, ttl}
					before := c.l
					expectSlow(t, c)
					if c.l != before || !bytes.Equal(whole, old) {
						t.Fatalf("%v changes its arguments", c)
					}
				}
			}
		}
	}
}

// TestNothingIsKept changes the key and the value between calls, and calls Check in turns with other arguments.
func TestNothingIsKept(t *testing.T) {
	key, value := []byte("key"), []byte("value")
	for range 3 {
		for _, c := range []call{
			{layout(3, 1, 2, 4), 7, key, value, 5}, {api.Layout{}, 7, key, value, 5}, {layout(3, 2, 2, 4), 0, key, value, maxExpiry2}, {layout(3, 1, 2, 4), 0, key, value, maxExpiry2},
			{layout(3, 1, 2, 4), 7, nil, value, 5}, {layout(3, 1, 2, 4), 7, key, nil, 0}, {layout(3, 1, 2, 4), -1, key, value, 5}, {layout(3, 1, 2, 4), 7, key, noise(41, 1), 5},
		} {
			expectSlow(t, c)
			clear(key)
			expectSlow(t, c)
			clear(value)
		}
	}
}

func TestAdmit(t *testing.T) {
	for _, x := range []struct {
		estimate int
		enough   bool
	}{
		{math.MinInt, false}, {math.MinInt + 2, false}, {-15, false}, {-2, false}, {-1, false}, {0, false}, {1, false},
		{2, true}, {3, true}, {4, true}, {15, true}, {16, true}, {256, true}, {1 << 32, true}, {math.MaxInt, true},
	} {
		for range 2 {
			for _, y := range []struct{ evicted, present, want bool }{{false, false, true}, {false, true, true}, {true, true, true}, {true, false, x.enough}} {
				if got := Admit(y.evicted, y.present, x.estimate); got != y.want {
					t.Errorf("Admit(%v, %v, %d) = %v", y.evicted, y.present, x.estimate, got)
				}
			}
		}
	}
}

func TestAdmitOfAllEstimates(t *testing.T) {
	for n := -40; n <= 40; n++ {
		if got := Admit(true, false, n); got != (n >= 2) {
			t.Errorf("Admit(true, false, %d) = %v", n, got)
		}
	}
}
