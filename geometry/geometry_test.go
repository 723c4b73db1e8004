package geometry

import (
	"math"
	"slices"
	"testing"

	"flashcache/api"
)

// sizes are the numbers of sectors that a region may have.
var sizes = []int{2, 4, 8, 16, 32, 64, 128, 256, 512, 1024, 2048}

// known has layouts, the first sectors of their slots, the ends of the last ones, and the capacities of their regions.
var known = []struct {
	l        api.Layout
	firsts   []int
	end      int
	capacity int
}{
	{layout(1, 1, 2, 4), []int{74, 76, 78, 80}, 82, 59},
	{layout(3, 1, 4, 6), []int{74, 78, 82, 86, 90, 94}, 98, 177},
	{layout(4, 2, 4, 7), []int{74, 78, 82, 86, 90, 94, 98}, 102, 177},
	{layout(258, 2, 8, 5), []int{74, 82, 90, 98, 106}, 114, 413},
	{layout(1<<32-1, 1, 64, 4), []int{74, 138, 202, 266}, 330, 3717},
	{layout(1<<31, 2, 1024, 5), []int{74, 1098, 2122, 3146, 4170}, 5194, 60357},
	{layout(1<<32-1, 2, 2048, 16), []int{74, 2122, 4170, 6218, 8266, 10314, 12362, 14410, 16458, 18506, 20554, 22602, 24650, 26698, 28746, 30794}, 32842, 120773},
}

// noSlots are numbers of no slot. With some of them, the product of the number and a size overflows, also to the sector of a slot.
var noSlots = []int{-1, -2, -4, -16, -37, -74, -1 << 32, -1 << 61, -1 << 62, math.MinInt, math.MinInt + 1, math.MinInt / 2, 16, 17, 32, 256, 1 << 20, 1 << 32, 1 << 52, 1<<52 + 1, 1 << 53, 1 << 60, 1<<60 + 1, 1 << 61, 1 << 62, 1<<62 + 1, math.MaxInt / 2, math.MaxInt - 1, math.MaxInt}

func layout(id, version, sectors, regions int) api.Layout {
	return api.Layout{ID: id, Version: version, RegionSectors: sectors, Regions: regions}
}

func region(l api.Layout, slot int) api.Region {
	return api.Region{Header: api.Header{Version: l.Version, Slot: slot, Layout: l.ID, Seq: 1}, Layout: l}
}

// regions returns the regions of these slots of l.
func regions(l api.Layout, slots ...int) []api.Region {
	var all []api.Region
	for _, slot := range slots {
		all = append(all, region(l, slot))
	}
	return all
}

// layouts returns layouts of all sizes and numbers of regions, with IDs and versions of all kinds.
func layouts() []api.Layout {
	ids := []int{1, 2, 255, 256, 65536, 0x01020304, 1 << 31, 1<<32 - 2, 1<<32 - 1}
	var all []api.Layout
	for i, n := range sizes {
		for regions := 4; regions <= 16; regions++ {
			all = append(all, layout(ids[(i+regions)%9], 1+(i+regions)%2, n, regions))
		}
	}
	return all
}

// noLayouts returns layouts that are not well-formed, each like l but for one number, and the zero Layout.
func noLayouts(l api.Layout) []api.Layout {
	all := []api.Layout{{}}
	for _, id := range []int{-1, 0, 1 << 32, 1<<32 + 1, 1<<32 + l.ID, math.MinInt, math.MinInt + l.ID, math.MaxInt - 1, math.MaxInt} {
		all = append(all, layout(id, l.Version, l.RegionSectors, l.Regions))
	}
	for _, version := range []int{-1, 0, 3, 256 + l.Version, math.MinInt, math.MinInt + l.Version, math.MaxInt} {
		all = append(all, layout(l.ID, version, l.RegionSectors, l.Regions))
	}
	for _, n := range []int{-4, -2, -1, 0, 1, 3, 5, 6, 12, 2047, 2049, 3072, 4095, 4096, 1 << 32, 1 << 62, -1 << 62, math.MinInt, math.MinInt + 4, math.MaxInt - 1, math.MaxInt} {
		all = append(all, layout(l.ID, l.Version, n, l.Regions))
	}
	for _, regions := range []int{-4, -1, 0, 1, 3, 17, 18, 256 + l.Regions, 1 << 32, 1 << 62, math.MinInt, math.MinInt + l.Regions, math.MaxInt - 1, math.MaxInt} {
		all = append(all, layout(l.ID, l.Version, l.RegionSectors, regions))
	}
	return all
}

// owners returns, for each sector before the end of l, the slot that it belongs to, or -1, counted one by one.
func owners(l api.Layout) []int {
	all := slices.Repeat([]int{-1}, 74)
	for slot := range l.Regions {
		for range l.RegionSectors {
			all = append(all, slot)
		}
	}
	return all
}

// common returns the pairs of slots, of two layouts with these owners, that have a sector in common.
func common(a, b []int) map[[2]int]bool {
	pairs := map[[2]int]bool{}
	for sector := 74; sector < min(len(a), len(b)); sector++ {
		pairs[[2]int{a[sector], b[sector]}] = true
	}
	return pairs
}

// slowFree returns the slots of target none of whose sectors is one of a live region, looked at one by one.
func slowFree(target api.Layout, live []api.Region) []int {
	taken := map[int]bool{}
	for _, r := range live {
		for sector, slot := range owners(r.Layout) {
			if slot >= 0 && slot == r.Header.Slot {
				taken[sector] = true
			}
		}
	}
	isFree := slices.Repeat([]bool{true}, target.Regions)
	for sector, slot := range owners(target) {
		if taken[sector] {
			isFree[slot] = false
		}
	}
	var free []int
	for slot, is := range isFree {
		if is {
			free = append(free, slot)
		}
	}
	return free
}

func expectFits(t *testing.T, l api.Layout, sectors int, want bool) {
	t.Helper()
	if got := Fits(l, sectors); got != want {
		t.Errorf("Fits(%+v, %d) = %v", l, sectors, got)
	}
}

func expectFirst(t *testing.T, l api.Layout, slot, want int) {
	t.Helper()
	if got := First(l, slot); got != want {
		t.Errorf("First(%+v, %d) = %d, want %d", l, slot, got, want)
	}
}

// expectOverlap reports an error unless Overlap returns want, whichever of the two slots comes first.
func expectOverlap(t *testing.T, a api.Layout, i int, b api.Layout, k int, want bool) {
	t.Helper()
	if got := Overlap(a, i, b, k); got != want {
		t.Errorf("Overlap(%+v, %d, %+v, %d) = %v", a, i, b, k, got)
	}
	if got := Overlap(b, k, a, i); got != want {
		t.Errorf("Overlap(%+v, %d, %+v, %d) = %v", b, k, a, i, got)
	}
}

// expectFree reports an error, with the first regions, unless Free returns these slots.
func expectFree(t *testing.T, what string, target api.Layout, live []api.Region, want ...int) {
	t.Helper()
	if got := Free(target, live); !slices.Equal(got, want) {
		t.Errorf("%s: Free(%+v) with %d regions, %+v = %v, want %v", what, target, len(live), live[:min(len(live), 9)], got, want)
	}
}

// upTo returns the numbers from 0 to n - 1.
func upTo(n int) []int {
	var all []int
	for i := range n {
		all = append(all, i)
	}
	return all
}

func TestExampleOfTheChapter(t *testing.T) {
	wide, narrow := layout(1, 1, 4, 5), layout(2, 1, 2, 12)
	for k := -1; k <= 12; k++ {
		expectOverlap(t, wide, 1, narrow, k, k == 2 || k == 3)
	}
}

// TestExampleOfTheDocument is its fifth one, for the layouts alone.
func TestExampleOfTheDocument(t *testing.T) {
	expectFits(t, layout(1, 1, 4, 6), 100, true)
	expectFits(t, layout(1, 1, 4, 7), 100, false)
}

func TestKnownLayouts(t *testing.T) {
	for _, x := range known {
		for slot, first := range x.firsts {
			expectFirst(t, x.l, slot, first)
		}
		expectFirst(t, x.l, len(x.firsts), -1)
		expectFits(t, x.l, x.end-1, false)
		expectFits(t, x.l, x.end, true)
		if got := Capacity(x.l); got != x.capacity {
			t.Errorf("Capacity(%+v) = %d, want %d", x.l, got, x.capacity)
		}
		expectFree(t, "nothing is live", x.l, nil, upTo(len(x.firsts))...)
	}
}

func TestFits(t *testing.T) {
	for _, l := range layouts() {
		end := len(owners(l))
		for _, sectors := range []int{math.MinInt, math.MinInt + 1, -1 << 32, -end, -1, 0, 1, 73, 74, 75, end - l.RegionSectors, end - 2, end - 1} {
			expectFits(t, l, sectors, false)
		}
		for _, sectors := range []int{end, end + 1, end + 2, 32842, 1<<20 - 1, 1 << 20, 1<<20 + 1, 1 << 32, 1 << 62, math.MaxInt - 1, math.MaxInt} {
			expectFits(t, l, sectors, true)
		}
	}
}

func TestFirst(t *testing.T) {
	for _, l := range layouts() {
		of := owners(l)
		for slot := range l.Regions {
			expectFirst(t, l, slot, slices.Index(of, slot))
		}
	}
}

func TestFirstOfNoSlots(t *testing.T) {
	for _, l := range layouts() {
		for _, slot := range slices.Concat(noSlots, []int{l.Regions, l.Regions + 1, 2 * l.Regions, -l.Regions, 1<<32 + 1, math.MinInt + l.Regions - 1}) {
			expectFirst(t, l, slot, -1)
		}
	}
}

func TestCapacity(t *testing.T) {
	want := []int{59, 177, 413, 885, 1829, 3717, 7493, 15045, 30149, 60357, 120773}
	for _, l := range layouts() {
		if got := Capacity(l); got != want[slices.Index(sizes, l.RegionSectors)] {
			t.Errorf("Capacity(%+v) = %d, want %d", l, got, want[slices.Index(sizes, l.RegionSectors)])
		}
	}
}

// TestOverlapOfOneLayout has layouts that differ in nothing or only in what does not count for sectors.
func TestOverlapOfOneLayout(t *testing.T) {
	for _, l := range layouts() {
		other := layout(l.ID%(1<<32-1)+1, 3-l.Version, l.RegionSectors, l.Regions)
		for i := range l.Regions {
			for k := range l.Regions {
				expectOverlap(t, l, i, l, k, i == k)
				expectOverlap(t, l, i, other, k, i == k)
			}
		}
	}
}

// TestOverlapOfTwoLayouts has all pairs of sizes and numbers of regions.
func TestOverlapOfTwoLayouts(t *testing.T) {
	all := layouts()
	var of [][]int
	for _, l := range all {
		of = append(of, owners(l))
	}
	for x, a := range all {
		for y, b := range all[:x+1] {
			pairs := common(of[x], of[y])
			for i := range a.Regions {
				for k := range b.Regions {
					expectOverlap(t, a, i, b, k, pairs[[2]int{i, k}])
				}
			}
		}
	}
}

// TestOverlapOfKnownSlots has slots that touch each other, and one that lies behind the other layout.
func TestOverlapOfKnownSlots(t *testing.T) {
	for _, x := range []struct {
		a    api.Layout
		i    int
		b    api.Layout
		k    int
		want bool
	}{
		{layout(1, 1, 4, 5), 0, layout(2, 1, 2, 4), 1, true}, // 74 to 77, and 76 to 77
		{layout(1, 1, 4, 5), 0, layout(2, 1, 2, 4), 2, false},
		{layout(1, 1, 4, 5), 1, layout(2, 1, 2, 4), 1, false},
		{layout(1, 1, 4, 5), 2, layout(2, 1, 2, 4), 3, false}, // 82 to 85 lie behind the other layout
		{layout(1, 1, 2, 16), 15, layout(2, 2, 8, 4), 3, true},
		{layout(1, 1, 2, 16), 12, layout(2, 2, 8, 4), 3, true},
		{layout(1, 1, 2, 16), 11, layout(2, 2, 8, 4), 3, false},
		{layout(1, 1, 2, 16), 11, layout(2, 2, 8, 4), 2, true},
		{layout(1, 1, 2048, 4), 0, layout(2, 2, 2, 16), 15, true},
		{layout(1, 1, 2048, 4), 1, layout(2, 2, 2, 16), 15, false},
		{layout(1, 1, 2048, 16), 1, layout(2, 2, 1024, 4), 2, true},
		{layout(1, 1, 2048, 16), 1, layout(2, 2, 1024, 4), 1, false},
		{layout(7, 1, 4, 5), 1, layout(7, 1, 8, 5), 0, true}, // one ID does not make them one layout
		{layout(7, 1, 4, 5), 1, layout(7, 1, 8, 5), 1, false},
	} {
		expectOverlap(t, x.a, x.i, x.b, x.k, x.want)
	}
}

func TestOverlapOfNoSlots(t *testing.T) {
	for _, a := range layouts() {
		b := layout(5, 1, max(2, 2048/a.RegionSectors), 20-a.Regions)
		for _, none := range slices.Concat(noSlots, []int{a.Regions, a.Regions + 1, a.Regions + 3, -a.Regions}) {
			for _, slot := range []int{-1, 0, 1, 3, a.Regions - 1, a.Regions, none} {
				expectOverlap(t, a, none, a, slot, false)
				expectOverlap(t, a, none, b, slot, false)
			}
		}
	}
	// The slot that a does not have would have sectors in common with one of b.
	a, b := layout(1, 1, 4, 4), layout(2, 1, 2, 16)
	for k := range 16 {
		expectOverlap(t, a, 3, b, k, k == 6 || k == 7)
		expectOverlap(t, a, 4, b, k, false)
	}
}

func TestFreeWithoutLiveRegions(t *testing.T) {
	for _, l := range layouts() {
		expectFree(t, "nil", l, nil, upTo(l.Regions)...)
		expectFree(t, "empty", l, []api.Region{}, upTo(l.Regions)...)
		expectFree(t, "empty, with room", l, regions(l, 0, 1)[:0], upTo(l.Regions)...)
	}
}

// TestFreeOfTheSameLayout has every set of the slots of a layout, in ascending and in descending order.
func TestFreeOfTheSameLayout(t *testing.T) {
	for _, l := range []api.Layout{layout(1, 1, 2, 4), layout(9, 2, 16, 7), layout(1<<32-1, 2, 2048, 9)} {
		for set := range 1 << l.Regions {
			var live []api.Region
			var want []int
			for slot := range l.Regions {
				if set>>slot&1 == 1 {
					live = append(live, region(l, slot))
				} else {
					want = append(want, slot)
				}
			}
			expectFree(t, "ascending", l, live, want...)
			slices.Reverse(live)
			expectFree(t, "descending", l, live, want...)
			expectFree(t, "each one twice", l, slices.Concat(live, live), want...)
		}
	}
}

func TestFreeOfOtherLayouts(t *testing.T) {
	narrow, middle, wide := layout(1, 1, 2, 16), layout(2, 2, 4, 6), layout(3, 1, 8, 4)
	for _, x := range []struct {
		what   string
		target api.Layout
		live   []api.Region
		want   []int
	}{
		{"one narrow slot", wide, regions(narrow, 5), []int{0, 2, 3}},
		{"the narrow slots of one wide one", wide, regions(narrow, 4, 5, 6, 7), []int{0, 2, 3}},
		{"narrow slots on both sides of a border", wide, regions(narrow, 7, 8), []int{0, 3}},
		{"one wide slot", narrow, regions(wide, 1), []int{0, 1, 2, 3, 8, 9, 10, 11, 12, 13, 14, 15}},
		{"the last wide slot, half of it behind the target", layout(4, 1, 2, 14), regions(wide, 3), upTo(12)},
		{"a wide slot behind the target", middle, regions(wide, 3), upTo(6)},
		{"a narrow slot behind the target", middle, regions(narrow, 12, 15), upTo(6)},
		{"a region where the target begins", layout(5, 1, 2048, 4), regions(narrow, 0), []int{1, 2, 3}},
		{"several layouts", middle, slices.Concat(regions(wide, 2), regions(narrow, 3), regions(middle, 0)), []int{2, 3}},
		{"several layouts, in another order", middle, slices.Concat(regions(middle, 0), regions(wide, 2), regions(narrow, 3)), []int{2, 3}},
		{"several on the same sectors", middle, slices.Concat(regions(wide, 0), regions(narrow, 0, 1), regions(middle, 1, 1)), []int{2, 3, 4, 5}},
		{"the same size, under another ID and version", middle, regions(layout(9, 1, 4, 16), 15, 5, 6, 0), []int{1, 2, 3, 4}},
		{"one ID, another size", middle, regions(layout(2, 2, 8, 4), 1), []int{0, 1, 4, 5}},
		{"none is left, by wide slots", middle, regions(wide, 0, 1, 2), nil},
		{"none is left, by narrow slots", wide, regions(narrow, 0, 15, 7, 9), nil},
		{"none is left, by a single slot", narrow, regions(layout(6, 1, 64, 4), 0), nil},
		{"none is left, by its own slots", middle, regions(middle, 5, 4, 3, 2, 1, 0), nil},
		{"the last one is left", middle, regions(middle, 4, 3, 2, 1, 0), []int{5}},
	} {
		expectFree(t, x.what, x.target, x.live, x.want...)
	}
}

// TestFreeOfAllPairsOfLayouts has a single live region, each slot of each layout.
func TestFreeOfAllPairsOfLayouts(t *testing.T) {
	all := layouts()
	var of [][]int
	for _, l := range all {
		of = append(of, owners(l))
	}
	for x, target := range all {
		for y, l := range all {
			pairs := common(of[x], of[y])
			for k := range l.Regions {
				want := slices.DeleteFunc(upTo(target.Regions), func(slot int) bool { return pairs[[2]int{slot, k}] })
				expectFree(t, "one region", target, regions(l, k), want...)
			}
		}
	}
}

// TestFreeOfManyRegions has live regions of several layouts, without a visible pattern, also ones that do not exist.
func TestFreeOfManyRegions(t *testing.T) {
	seed := uint32(1)
	next := func(n int) int {
		seed = seed*1664525 + 1013904223
		return int(seed>>16) % n
	}
	for range 4000 {
		target := layout(1+next(9), 1+next(2), 2<<next(4), 4+next(13))
		var live []api.Region
		for range next(7) {
			live = append(live, region(layout(1+next(9), 1+next(2), 2<<next(4), 4+next(13)), next(24)-4))
		}
		expectFree(t, "many regions", target, live, slowFree(target, live)...)
	}
}

// TestFreeDependsOnPlacesAlone has live regions whose headers are not valid, or belong to another layout.
func TestFreeDependsOnPlacesAlone(t *testing.T) {
	l := layout(3, 2, 4, 6)
	for _, h := range []api.Header{{}, {Layout: 3}, {Version: 9, Layout: -7, Seq: -1, Tail: -1, Now: -1}, {Version: 1, Layout: 4, Seq: math.MaxInt, Tail: math.MaxInt, Now: math.MaxInt}, {Version: 2, Layout: 3, Seq: 1, Tail: 2}} {
		for slot := range 6 {
			h.Slot = slot
			want := slices.Delete(upTo(6), slot, slot+1)
			expectFree(t, "a header that is not valid", l, []api.Region{{Header: h, Layout: l}}, want...)
		}
	}
}

func TestFreeWithRegionsThatDoNotExist(t *testing.T) {
	for _, l := range layouts() {
		var live []api.Region
		for _, slot := range slices.Concat(noSlots, []int{l.Regions, l.Regions + 1, -l.Regions}) {
			expectFree(t, "no slot", l, regions(l, slot), upTo(l.Regions)...)
			live = append(live, region(l, slot))
		}
		for _, none := range noLayouts(l) {
			for slot := range 4 {
				expectFree(t, "no layout", l, regions(none, slot), upTo(l.Regions)...)
				live = append(live, region(none, slot))
			}
		}
		expectFree(t, "none of them exists", l, live, upTo(l.Regions)...)
		live = slices.Insert(live, len(live)/2, region(l, 2))
		expectFree(t, "one of them exists", l, live, slices.Delete(upTo(l.Regions), 2, 3)...)
		expectFree(t, "two of them exist", l, append(live, region(l, 3)), slices.Delete(upTo(l.Regions), 2, 4)...)
	}
}

// TestFreeOfALongSlice has very many regions, most of which do not exist.
func TestFreeOfALongSlice(t *testing.T) {
	l := layout(3, 2, 4, 16)
	live := slices.Repeat(regions(l, -1), 100000)
	expectFree(t, "none exists", l, live, upTo(16)...)
	live[len(live)-1] = region(l, 15)
	expectFree(t, "the last one exists", l, live, upTo(15)...)
	live[0] = region(layout(4, 1, 32, 4), 0)
	expectFree(t, "the first and the last one exist", l, live, 8, 9, 10, 11, 12, 13, 14)
}

func TestLayoutsThatAreNotWellFormed(t *testing.T) {
	for _, l := range layouts() {
		for _, none := range noLayouts(l) {
			for _, sectors := range []int{math.MinInt, -1, 0, 74, 1 << 20, math.MaxInt} {
				expectFits(t, none, sectors, false)
			}
			for _, slot := range []int{math.MinInt, -1, 0, 1, 3, 15, 16, math.MaxInt} {
				expectFirst(t, none, slot, -1)
				expectOverlap(t, none, slot, none, slot, false)
				expectOverlap(t, none, slot, l, 0, false)
				expectOverlap(t, none, 0, l, slot, false)
			}
			if got := Capacity(none); got != 0 {
				t.Errorf("Capacity(%+v) = %d, want 0", none, got)
			}
			if Free(none, nil) != nil || Free(none, regions(l, 0)) != nil || Free(none, regions(none, 0, 1)) != nil {
				t.Errorf("Free(%+v) has slots", none)
			}
		}
	}
}

func TestFreeLeavesItsArgumentAlone(t *testing.T) {
	narrow, wide := layout(1, 1, 2, 16), layout(3, 1, 8, 4)
	whole := slices.Concat(regions(narrow, 1, 2), regions(wide, 3, 0, 9), regions(api.Layout{}, 0), regions(narrow, 3, 15, 4))
	old := slices.Clone(whole)
	for i := range whole {
		for k := i; k <= len(whole); k++ {
			free := Free(narrow, whole[i:k])
			want := slices.Clone(free)
			Free(wide, whole[i:k])
			if !slices.Equal(whole, old) {
				t.Fatalf("Free of the regions %d to %d changes them, or what surrounds them", i, k)
			}
			clear(whole)
			if !slices.Equal(free, want) {
				t.Errorf("a result of Free shares memory with its argument: %v, want %v", free, want)
			}
			copy(whole, old)
		}
	}
}

func TestResultsOfFreeShareNoMemory(t *testing.T) {
	l := layout(3, 2, 4, 16)
	first, second := Free(l, regions(l, 1)), Free(l, regions(l, 1))
	want := slices.Delete(upTo(16), 1, 2)
	clear(first[:cap(first)])
	if !slices.Equal(second, want) {
		t.Errorf("a result of Free shares memory with another one: %v, want %v", second, want)
	}
	expectFree(t, "after another result was cleared", l, regions(l, 1), want...)
}

func TestCallsDependOnNothingElse(t *testing.T) {
	for range 3 {
		for _, x := range known {
			last := len(x.firsts) - 1
			expectFirst(t, x.l, last, x.firsts[last])
			expectFirst(t, api.Layout{}, last, -1)
			expectFits(t, x.l, x.end, true)
			expectFits(t, x.l, x.end-1, false)
			expectOverlap(t, x.l, last, x.l, last, true)
			expectOverlap(t, x.l, last, x.l, 0, false)
			expectFree(t, "the last one is live", x.l, regions(x.l, last), upTo(last)...)
			expectFree(t, "the first one is live", x.l, regions(x.l, 0), upTo(last + 1)[1:]...)
		}
	}
}
