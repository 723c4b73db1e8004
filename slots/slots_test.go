package slots

import (
	"math"
	"math/rand/v2"
	"slices"
	"testing"

	"flashcache/api"
)

// capacities has the bytes of data of a region of so many sectors.
var capacities = map[int]int{2: 59, 4: 177, 8: 413, 16: 885, 32: 1829, 64: 3717, 128: 7493, 256: 15045, 512: 30149, 1024: 60357, 2048: 120773}

// seqs are Seqs of all kinds, also ones that no region has. The difference of some of them overflows.
var seqs = []int{math.MinInt, math.MinInt + 1, -1 << 48, -9, -1, 0, 1, 2, 9, 1 << 32, 1<<48 - 1, 1 << 48, math.MaxInt - 1, math.MaxInt}

// four, wide and narrow are the layouts of the chapter's example; double has regions of double the size.
var (
	four   = layout(1, 1, 4, 4)
	wide   = layout(2, 1, 4, 8)
	narrow = layout(3, 1, 2, 4)
	double = layout(4, 2, 8, 4)
)

func layout(id, version, sectors, regions int) api.Layout {
	return api.Layout{ID: id, Version: version, RegionSectors: sectors, Regions: regions}
}

func region(l api.Layout, slot, seq int) api.Region {
	return api.Region{Header: api.Header{Version: l.Version, Slot: slot, Layout: l.ID, Seq: seq}, Layout: l}
}

// regions returns the regions of these slots of l, with ascending Seqs from 1 on.
func regions(l api.Layout, slots ...int) []api.Region {
	var all []api.Region
	for i, slot := range slots {
		all = append(all, region(l, slot, i+1))
	}
	return all
}

// marked returns regions with these Seqs, each one with its place in the list as its time. Their layouts take turns.
func marked(all ...int) []api.Region {
	layouts := []api.Layout{four, wide, narrow, double, {}}
	var live []api.Region
	for i, seq := range all {
		r := region(layouts[i%len(layouts)], i%7-1, seq)
		r.Header.Now = i
		live = append(live, r)
	}
	return live
}

// marks returns the places that marked has given to these regions.
func marks(live []api.Region) []int {
	var all []int
	for _, r := range live {
		all = append(all, r.Header.Now)
	}
	return all
}

// noLayouts returns layouts that are not well-formed, each like l but for one number, and the zero Layout.
func noLayouts(l api.Layout) []api.Layout {
	all := []api.Layout{{}}
	for _, id := range []int{math.MinInt, math.MinInt + l.ID, -1, 0, 1 << 32, 1<<32 + l.ID, math.MaxInt} {
		all = append(all, layout(id, l.Version, l.RegionSectors, l.Regions))
	}
	for _, version := range []int{math.MinInt, -1, 0, 3, 256 + l.Version, math.MaxInt} {
		all = append(all, layout(l.ID, version, l.RegionSectors, l.Regions))
	}
	for _, n := range []int{math.MinInt, math.MinInt + 4, -4, -1, 0, 1, 3, 5, 6, 12, 2047, 2049, 4096, 1 << 32, 1 << 62, math.MaxInt} {
		all = append(all, layout(l.ID, l.Version, n, l.Regions))
	}
	for _, n := range []int{math.MinInt, math.MinInt + 1, math.MinInt + 4, -4, -1, 0, 1, 2, 3, 17, 256 + l.Regions, 1 << 32, 1 << 62, math.MaxInt} {
		all = append(all, layout(l.ID, l.Version, l.RegionSectors, n))
	}
	return all
}

// capacityOf returns the bytes of data of a region of l, or 0 if l is not well-formed.
func capacityOf(l api.Layout) int {
	if l.ID < 1 || l.ID > 4294967295 || l.Version < 1 || l.Version > 2 || l.Regions < 4 || l.Regions > 16 {
		return 0
	}
	return capacities[l.RegionSectors]
}

// slowOrder selects the oldest one of the regions that are left, again and again.
func slowOrder(live []api.Region) []api.Region {
	rest := slices.Clone(live)
	var order []api.Region
	for len(rest) > 0 {
		oldest := 0
		for i, r := range rest {
			if r.Header.Seq < rest[oldest].Header.Seq {
				oldest = i
			}
		}
		order = append(order, rest[oldest])
		rest = slices.Delete(rest, oldest, oldest+1)
	}
	return order
}

func slowTail(live []api.Region, next int) int {
	if order := slowOrder(live); len(order) > 0 {
		return order[0].Header.Seq
	}
	return next
}

func slowForeign(target api.Layout, live []api.Region) []api.Region {
	var foreign []api.Region
	for _, r := range slowOrder(live) {
		if r.Layout.ID != target.ID {
			foreign = append(foreign, r)
		}
	}
	return foreign
}

// slowFree returns the slots of target none of whose sectors is one of a live region, looked at one by one.
func slowFree(target api.Layout, live []api.Region) []int {
	if capacityOf(target) == 0 {
		return nil
	}
	taken := map[int]bool{}
	for _, r := range live {
		if capacityOf(r.Layout) == 0 || r.Header.Slot < 0 || r.Header.Slot >= r.Layout.Regions {
			continue
		}
		for i := range r.Layout.RegionSectors {
			taken[74+r.Header.Slot*r.Layout.RegionSectors+i] = true
		}
	}
	var free []int
	for slot := range target.Regions {
		isFree := true
		for i := range target.RegionSectors {
			isFree = isFree && !taken[74+slot*target.RegionSectors+i]
		}
		if isFree {
			free = append(free, slot)
		}
	}
	return free
}

func slowChoose(target api.Layout, live []api.Region) (int, bool) {
	if free := slowFree(target, live); len(free) > 0 {
		return free[0], true
	}
	return -1, false
}

func slowSpare(target api.Layout, live []api.Region, slot int) bool {
	others := 0
	for _, free := range slowFree(target, live) {
		if free != slot {
			others++
		}
	}
	return others > 0
}

// slowCut counts up through all k, from 0 on.
func slowCut(target api.Layout, live []api.Region) int {
	order := slowOrder(live)
	if capacityOf(target) == 0 {
		return len(order)
	}
	for k := range order {
		if fits(target, order[k:]) && len(slowFree(target, order[k:])) > 0 {
			return k
		}
	}
	return len(order)
}

// fits reports whether the data of the regions fit into all slots of target but one.
func fits(target api.Layout, live []api.Region) bool {
	sum := 0
	for _, r := range live {
		sum += capacityOf(r.Layout)
	}
	return sum <= (target.Regions-1)*capacityOf(target)
}

// slotsAround returns numbers of slots of target, ones next to them, and ones far from them.
func slotsAround(target api.Layout) []int {
	all := []int{math.MinInt, math.MinInt + 1, -2, target.Regions + 1, 1 << 32, math.MaxInt - 1, math.MaxInt}
	for slot := -1; slot <= min(target.Regions, 16); slot++ {
		all = append(all, slot)
	}
	return all
}

// expectOrders reports an error unless Order, Tail and Foreign return what a selection of the oldest region does.
func expectOrders(t *testing.T, target api.Layout, live []api.Region) {
	t.Helper()
	if got, want := Order(live), slowOrder(live); !slices.Equal(got, want) {
		t.Errorf("Order of the Seqs %v: the places %v, want %v", live, marks(got), marks(want))
	}
	for _, next := range []int{math.MinInt, -1, 0, 5, math.MaxInt} {
		if got, want := Tail(live, next), slowTail(live, next); got != want {
			t.Errorf("Tail(%v, %d) = %d, want %d", live, next, got, want)
		}
	}
	if got, want := Foreign(target, live), slowForeign(target, live); !slices.Equal(got, want) {
		t.Errorf("Foreign(%+v, %v): the places %v, want %v", target, live, marks(got), marks(want))
	}
}

// expectSlots reports an error unless Choose, Spare and Cut return what a look at each sector and a count of all k do.
func expectSlots(t *testing.T, target api.Layout, live []api.Region) {
	t.Helper()
	wantSlot, wantOK := slowChoose(target, live)
	expectChoose(t, target, live, wantSlot, wantOK)
	for _, slot := range slotsAround(target) {
		expectSpare(t, target, live, slot, slowSpare(target, live, slot))
	}
	expectCut(t, target, live, slowCut(target, live))
}

func expectChoose(t *testing.T, target api.Layout, live []api.Region, want int, wantOK bool) {
	t.Helper()
	if got, ok := Choose(target, live); got != want || ok != wantOK {
		t.Errorf("Choose(%+v, %v) = %d, %v, want %d", target, live, got, ok, want)
	}
}

func expectSpare(t *testing.T, target api.Layout, live []api.Region, slot int, want bool) {
	t.Helper()
	if got := Spare(target, live, slot); got != want {
		t.Errorf("Spare(%+v, %v, %d) = %v", target, live, slot, got)
	}
}

func expectCut(t *testing.T, target api.Layout, live []api.Region, want int) {
	t.Helper()
	if got := Cut(target, live); got != want {
		t.Errorf("Cut(%+v, %v) = %d, want %d", target, live, got, want)
	}
}

// shuffled returns a copy of live in another order.
func shuffled(live []api.Region, random *rand.Rand) []api.Region {
	all := slices.Clone(live)
	random.Shuffle(len(all), func(i, k int) { all[i], all[k] = all[k], all[i] })
	return all
}

// permute calls do with each order of all[n:], after all[:n].
func permute(all []api.Region, n int, do func([]api.Region)) {
	if n == len(all) {
		do(all)
		return
	}
	for i := n; i < len(all); i++ {
		all[n], all[i] = all[i], all[n]
		permute(all, n+1, do)
		all[n], all[i] = all[i], all[n]
	}
}

func TestExample(t *testing.T) {
	permute(regions(four, 0, 1, 2), 0, func(live []api.Region) {
		expectChoose(t, four, live, 3, true)
		expectCut(t, four, live, 0)
		expectCut(t, wide, live, 0)
		expectCut(t, narrow, live, 2)
		expectCut(t, layout(1, 1, 2, 4), live, 2)
	})
}

func TestOrder(t *testing.T) {
	for _, x := range []struct{ seqs, places []int }{
		{nil, nil},
		{[]int{7}, []int{0}},
		{[]int{math.MinInt}, []int{0}},
		{[]int{7, 8}, []int{0, 1}},
		{[]int{8, 7}, []int{1, 0}},
		{[]int{7, 7}, []int{0, 1}},
		{[]int{9, 3, 5, 3}, []int{1, 3, 2, 0}},
		{[]int{3, 5, 3, 5, 3}, []int{0, 2, 4, 1, 3}},
		{[]int{5, 3, 3, 5, 9, 9, 5}, []int{1, 2, 0, 3, 6, 4, 5}},
		{[]int{0, -1, 1, -2, 2}, []int{3, 1, 0, 2, 4}},
		{[]int{math.MaxInt, math.MinInt, 0}, []int{1, 2, 0}},
		{[]int{1, math.MinInt, math.MaxInt, -2, math.MinInt, math.MaxInt}, []int{1, 4, 3, 0, 2, 5}},
		{[]int{16, 15, 14, 13, 12, 11, 10, 9, 8, 7, 6, 5, 4, 3, 2, 1}, []int{15, 14, 13, 12, 11, 10, 9, 8, 7, 6, 5, 4, 3, 2, 1, 0}},
		{[]int{2, 1, 2, 1, 2, 1, 2, 1, 2, 1, 2, 1, 2, 1, 2, 1}, []int{1, 3, 5, 7, 9, 11, 13, 15, 0, 2, 4, 6, 8, 10, 12, 14}},
	} {
		live := marked(x.seqs...)
		got := Order(live)
		if !slices.Equal(marks(got), x.places) {
			t.Errorf("Order of the Seqs %v: the places %v, want %v", x.seqs, marks(got), x.places)
		}
		for i, place := range x.places {
			if got[i] != live[place] {
				t.Errorf("Order of the Seqs %v changes the region %d to %+v", x.seqs, place, got[i])
			}
		}
		expectOrders(t, four, live)
	}
}

// TestEveryOrderOfSmallLists has every order of up to seven different Seqs, in lists whose regions are known by their time.
func TestEveryOrderOfSmallLists(t *testing.T) {
	all := []int{math.MinInt, -9, -1, 0, 1, 1 << 48, math.MaxInt}
	for n := range len(all) + 1 {
		permute(marked(all[:n]...), 0, func(live []api.Region) {
			expectOrders(t, four, live)
		})
	}
}

// TestEverySmallListOfFewSeqs has all lists of up to six regions with four Seqs, so that some of these are equal, at the ends and in the middle.
func TestEverySmallListOfFewSeqs(t *testing.T) {
	few := []int{math.MinInt, -1, 1, math.MaxInt}
	for n := range 7 {
		for list := range 1 << (2 * n) {
			var all []int
			for i := range n {
				all = append(all, few[list>>(2*i)&3])
			}
			expectOrders(t, narrow, marked(all...))
		}
	}
}

// TestOrdersOfLongLists has Seqs that are all different, all equal, of a few kinds, and equal at the ends or in the middle alone.
func TestOrdersOfLongLists(t *testing.T) {
	random := rand.New(rand.NewPCG(1, 2))
	kinds := []func(i, n int) int{
		func(i, n int) int { return i - n/2 },
		func(i, n int) int { return 7 },
		func(i, n int) int { return math.MinInt },
		func(i, n int) int { return i % 2 },
		func(i, n int) int { return seqs[i%len(seqs)] },
		func(i, n int) int { return max(i, n/3) },
		func(i, n int) int { return min(i, n-n/3) },
		func(i, n int) int { return min(max(i, n/4), n-n/4) },
		func(i, n int) int {
			if i > n/3 && i < n-n/3 {
				return n / 2
			}
			return i
		},
	}
	for _, n := range []int{7, 8, 11, 12, 13, 14, 15, 16, 17, 19, 20, 21, 24, 31, 32, 33, 40, 41, 50, 64, 100, 257} {
		for _, kind := range kinds {
			var all []int
			for i := range n {
				all = append(all, kind(i, n))
			}
			expectOrders(t, four, marked(all...))
			slices.Reverse(all)
			expectOrders(t, four, marked(all...))
			for range 12 {
				random.Shuffle(n, func(i, k int) { all[i], all[k] = all[k], all[i] })
				expectOrders(t, []api.Layout{four, wide, narrow, double, {}}[random.IntN(5)], marked(all...))
			}
		}
	}
}

func TestOrderOfAThousandRegions(t *testing.T) {
	random := rand.New(rand.NewPCG(3, 4))
	for _, kinds := range []int{1, 2, 7, 100, math.MaxInt} {
		var all []int
		for range 1000 {
			all = append(all, random.IntN(kinds)-kinds/2)
		}
		expectOrders(t, wide, marked(all...))
	}
}

// TestEqualRegions has regions that are equal in all their fields: none of them is lost.
func TestEqualRegions(t *testing.T) {
	a, b := region(four, 1, 5), region(narrow, 2, 5)
	for _, n := range []int{1, 2, 3, 12, 13, 16, 50} {
		same := slices.Repeat([]api.Region{a}, n)
		if got := Order(same); !slices.Equal(got, same) {
			t.Errorf("Order of %d equal regions returns %d: %v", n, len(got), got)
		}
		if got := Foreign(narrow, same); !slices.Equal(got, same) {
			t.Errorf("Foreign of %d equal regions returns %d: %v", n, len(got), got)
		}
		if got := Foreign(four, same); len(got) != 0 {
			t.Errorf("Foreign returns %d regions of target: %v", len(got), got)
		}
		expectCut(t, four, same, max(0, n-3))
		turns := slices.Repeat([]api.Region{a, b, a}, n)
		if got := Order(turns); !slices.Equal(got, turns) {
			t.Errorf("Order of %d regions, some of them equal, returns %d: %v", 3*n, len(got), got)
		}
		expectOrders(t, four, turns)
	}
	expectOrders(t, four, make([]api.Region, 20))
}

func TestTail(t *testing.T) {
	for _, x := range []struct {
		seqs []int
		next int
		want int
	}{
		{nil, 20, 20}, {nil, 0, 0}, {nil, -1, -1}, {nil, math.MinInt, math.MinInt}, {nil, math.MaxInt, math.MaxInt},
		{[]int{7}, 6, 7}, {[]int{7}, 7, 7}, {[]int{7}, 8, 7}, {[]int{7}, math.MinInt, 7}, {[]int{7}, math.MaxInt, 7}, {[]int{0}, 1, 0}, {[]int{0}, -1, 0},
		{[]int{9, 3, 5}, 2, 3}, {[]int{9, 3, 5}, 3, 3}, {[]int{9, 3, 5}, 4, 3}, {[]int{9, 3, 5}, 9, 3}, {[]int{9, 3, 5}, 10, 3}, {[]int{9, 3, 5}, -3, 3},
		{[]int{3, 5, 9}, 0, 3}, {[]int{9, 5, 3}, 0, 3}, {[]int{5, 5, 5}, 0, 5}, {[]int{5, 3, 5, 3}, 9, 3},
		{[]int{1, -1, 0}, 5, -1}, {[]int{-7, -8}, -9, -8}, {[]int{-7, -8}, 0, -8},
		{[]int{math.MaxInt}, 0, math.MaxInt}, {[]int{math.MaxInt}, math.MinInt, math.MaxInt}, {[]int{math.MaxInt, math.MaxInt - 1}, 5, math.MaxInt - 1},
		{[]int{0, math.MinInt, math.MaxInt}, 5, math.MinInt}, {[]int{math.MinInt}, math.MaxInt, math.MinInt},
	} {
		if got := Tail(marked(x.seqs...), x.next); got != x.want {
			t.Errorf("Tail of the Seqs %v and the next one %d = %d, want %d", x.seqs, x.next, got, x.want)
		}
	}
}

// TestForeign has one region of each layout: the ID alone tells whether it is foreign, and which one its header names does not matter.
func TestForeign(t *testing.T) {
	target := layout(5, 1, 4, 6)
	for _, x := range []struct {
		l         api.Layout
		isForeign bool
	}{
		{target, false},
		{layout(6, 1, 4, 6), true}, {layout(4, 1, 4, 6), true}, {layout(0, 1, 4, 6), true}, {layout(-5, 1, 4, 6), true}, {layout(1<<32+5, 1, 4, 6), true}, {layout(math.MinInt+5, 1, 4, 6), true},
		{layout(5, 2, 4, 6), false}, {layout(5, 1, 8, 6), false}, {layout(5, 1, 4, 7), false}, {layout(5, 2, 16, 9), false}, {layout(5, 0, 0, 0), false}, {layout(5, -1, 3, math.MaxInt), false},
		{layout(6, 2, 8, 9), true}, {api.Layout{}, true},
	} {
		for _, header := range []int{5, 6, x.l.ID} {
			r := region(x.l, 2, 9)
			r.Header.Layout = header
			var want []api.Region
			if x.isForeign {
				want = []api.Region{r}
			}
			if got := Foreign(target, []api.Region{r}); !slices.Equal(got, want) {
				t.Errorf("Foreign(%+v, the region %+v) = %v", target, r, got)
			}
		}
	}
}

func TestForeignOfSeveralLayouts(t *testing.T) {
	a, b, c, none := layout(1, 1, 4, 4), layout(2, 1, 8, 4), layout(3, 2, 4, 6), api.Layout{}
	live := []api.Region{region(b, 0, 9), region(a, 1, 3), region(c, 2, 3), region(a, 2, 5), region(b, 3, 3), region(none, 0, 4), region(c, 1, -2), region(a, 0, 9)}
	for _, x := range []struct {
		target api.Layout
		places []int
	}{
		{a, []int{6, 2, 4, 5, 0}},
		{b, []int{6, 1, 2, 5, 3, 7}},
		{c, []int{1, 4, 5, 3, 0, 7}},
		{none, []int{6, 1, 2, 4, 3, 0, 7}},
		{layout(0, 2, 8, 5), []int{6, 1, 2, 4, 3, 0, 7}},
		{layout(1, 0, -1, math.MinInt), []int{6, 2, 4, 5, 0}},
		{layout(4, 1, 4, 4), []int{6, 1, 2, 4, 5, 3, 0, 7}},
		{layout(math.MinInt, 1, 4, 4), []int{6, 1, 2, 4, 5, 3, 0, 7}},
		{layout(math.MaxInt, 1, 4, 4), []int{6, 1, 2, 4, 5, 3, 0, 7}},
	} {
		var want []api.Region
		for _, place := range x.places {
			want = append(want, live[place])
		}
		if got := Foreign(x.target, live); !slices.Equal(got, want) {
			t.Errorf("Foreign(%+v) = %v, want %v", x.target, got, want)
		}
	}
	for _, target := range append(noLayouts(a), noLayouts(c)...) {
		expectOrders(t, target, live)
	}
}

func TestChooseWithoutRegions(t *testing.T) {
	for sectors := range capacities {
		for n := 4; n <= 16; n++ {
			target := layout(n, 1+n%2, sectors, n)
			expectChoose(t, target, nil, 0, true)
			for _, slot := range slotsAround(target) {
				expectSpare(t, target, nil, slot, true)
			}
			expectCut(t, target, nil, 0)
		}
	}
}

// TestEverySetOfSlots has regions of target itself: the lowest slot that is not in the set is free.
func TestEverySetOfSlots(t *testing.T) {
	for set := range 16 {
		var taken, free []int
		for slot := range 4 {
			if set>>slot&1 == 1 {
				taken = append(taken, slot)
			} else {
				free = append(free, slot)
			}
		}
		for _, l := range []api.Layout{four, layout(9, 2, 4, 4), layout(9, 1, 4, 16)} {
			live := regions(l, taken...)
			slot, ok := -1, len(free) > 0
			if ok {
				slot = free[0]
			}
			expectChoose(t, four, live, slot, ok)
			for _, x := range []int{math.MinInt, -1, 4, math.MaxInt} {
				expectSpare(t, four, live, x, ok)
			}
			for _, x := range taken {
				expectSpare(t, four, live, x, ok)
			}
			for _, x := range free {
				expectSpare(t, four, live, x, len(free) > 1)
			}
			expectCut(t, four, live, max(0, len(taken)-3))
			expectSlots(t, four, live)
		}
	}
}

// TestSizes has live regions of half and of double the size, and ones beyond the end of target.
func TestSizes(t *testing.T) {
	for _, x := range []struct {
		target api.Layout
		live   []api.Region
		slot   int
		ok     bool
		spare  bool // beside that slot
	}{
		{four, regions(layout(8, 1, 2, 8), 0), 1, true, true},
		{four, regions(layout(8, 1, 2, 8), 1), 1, true, true},
		{four, regions(layout(8, 1, 2, 8), 2), 0, true, true},
		{four, regions(layout(8, 1, 2, 8), 1, 2, 5), 3, true, false},
		{four, regions(layout(8, 1, 2, 8), 7, 4, 3), 0, true, false},
		{four, regions(layout(8, 1, 2, 8), 6, 4, 3, 1), -1, false, false},
		{four, regions(layout(8, 1, 2, 16), 8, 9, 15), 0, true, true},
		{four, regions(narrow, 0, 1, 2, 3), 2, true, true},
		{four, regions(double, 0), 2, true, true},
		{four, regions(double, 1), 0, true, true},
		{four, regions(double, 0, 1), -1, false, false},
		{four, regions(double, 2, 3), 0, true, true},
		{wide, regions(double, 0, 1, 2), 6, true, true},
		{wide, regions(double, 0, 1, 3), 4, true, true},
		{wide, regions(double, 3, 2, 1, 0), -1, false, false},
		{wide, append(regions(double, 1, 2), region(four, 1, 7), region(layout(8, 1, 2, 16), 15, 8)), 0, true, true},
		{wide, append(regions(double, 1, 2), region(four, 1, 7), region(layout(8, 1, 2, 16), 15, 8), region(wide, 6, 9)), 0, true, false},
		{wide, regions(four, 0, 1, 2, 3), 4, true, true},
		{wide, regions(layout(9, 1, 4, 16), 8, 12, 15), 0, true, true},
		{wide, regions(layout(9, 1, 4, 7), 0, 1, 2, 3, 4, 5, 6), 7, true, false},
		{narrow, regions(four, 0), 2, true, true},
		{narrow, regions(four, 1), 0, true, true},
		{narrow, regions(four, 0, 1), -1, false, false},
		{narrow, regions(four, 2, 3), 0, true, true},
		{double, regions(four, 1, 2), 2, true, true},
		{double, regions(four, 3), 0, true, true},
		{double, regions(layout(8, 1, 2, 16), 0, 4, 8, 12), -1, false, false},
		{double, regions(layout(8, 1, 2, 16), 3, 7, 15), 2, true, false},
		{double, regions(layout(9, 1, 2048, 4), 0), -1, false, false},
		{double, regions(layout(9, 1, 2048, 4), 1, 2, 3), 0, true, true},
		{layout(9, 2, 2048, 16), regions(double, 0, 1, 2, 3), 1, true, true},
		{layout(9, 2, 2048, 16), regions(layout(8, 1, 1024, 16), 0, 3, 4, 7, 9, 10, 12, 15), 8, true, true},
	} {
		expectChoose(t, x.target, x.live, x.slot, x.ok)
		expectSpare(t, x.target, x.live, x.slot, x.spare)
		expectSlots(t, x.target, x.live)
	}
}

func TestEverySetOfSlotsOfOtherSizes(t *testing.T) {
	for _, l := range []api.Layout{layout(8, 1, 2, 8), double, wide} {
		for set := range 1 << l.Regions {
			var taken []int
			for slot := range l.Regions {
				if set>>slot&1 == 1 {
					taken = append(taken, slot)
				}
			}
			for _, target := range []api.Layout{four, narrow, layout(9, 1, 16, 4)} {
				expectSlots(t, target, regions(l, taken...))
			}
		}
	}
}

func TestTargetsThatAreNotWellFormed(t *testing.T) {
	mixed := append(regions(four, 0, 2), region(double, 1, -5), region(api.Layout{}, 0, 7))
	for _, l := range []api.Layout{four, narrow, layout(1<<32-1, 2, 2048, 16)} {
		for _, target := range noLayouts(l) {
			for _, live := range [][]api.Region{nil, regions(l, 0), regions(target, 0, 1), mixed, slices.Repeat(mixed, 5)} {
				expectChoose(t, target, live, -1, false)
				for _, slot := range slotsAround(target) {
					expectSpare(t, target, live, slot, false)
				}
				expectCut(t, target, live, len(live))
				expectOrders(t, target, live)
			}
		}
	}
}

// TestRegionsWithoutSlot has regions of layouts that are not well-formed, and of slots that do not exist: they overlap nothing, but those of well-formed layouts have data.
func TestRegionsWithoutSlot(t *testing.T) {
	var live []api.Region
	for _, l := range noLayouts(four) {
		live = append(live, regions(l, 0, 1, 2, 3, -1, math.MaxInt)...)
	}
	expectChoose(t, four, live, 0, true)
	expectSpare(t, four, live, 0, true)
	expectCut(t, four, live, 0)
	expectCut(t, four, append(live, regions(four, 0, 1, 2)...), 0)
	expectSlots(t, narrow, live)
	absent := regions(four, math.MinInt, math.MinInt+1, -1, 4, 5, 1<<32, 1<<62, math.MaxInt)
	for _, target := range []api.Layout{four, narrow, wide, double} {
		expectChoose(t, target, absent, 0, true)
		expectSpare(t, target, absent, 0, true)
		expectSlots(t, target, absent)
	}
	expectCut(t, four, absent, 5)
	expectCut(t, narrow, absent, 7)
	expectCut(t, wide, absent, 1)
	expectCut(t, double, absent, 1)
}

// TestCut has room for 531 bytes in four, for 1239 in wide, for 177 in narrow and for 1239 in double.
func TestCut(t *testing.T) {
	far := layout(9, 1, 4, 16)
	whole := layout(8, 1, 2, 16)
	for _, x := range []struct {
		target api.Layout
		live   []api.Region
		want   int
	}{
		{four, nil, 0},
		// the same size of regions, and as many, more or fewer of them
		{four, regions(four, 0, 1, 2, 3), 1},
		{four, regions(four, 3, 1), 0},
		{layout(9, 2, 4, 4), regions(four, 0, 1, 2), 0},
		{layout(9, 2, 4, 4), regions(four, 0, 1, 2, 3), 1},
		{layout(9, 1, 4, 5), regions(four, 0, 1, 2, 3), 0},
		{wide, regions(four, 0, 1, 2, 3), 0},
		{four, regions(wide, 4, 5, 6, 7), 1},
		{four, regions(wide, 5, 6, 7), 0},
		{four, regions(wide, 0, 1, 2, 3, 4, 5, 6), 4},
		{four, regions(wide, 6, 5, 4, 3, 2, 1, 0), 4},
		{four, regions(far, 0, 1, 2, 3, 4, 5, 6, 7, 8, 9, 10, 11, 12, 13, 14, 15), 13},
		// the sum decides: exactly the room, one region less and one more
		{wide, regions(far, 9, 10, 11, 12, 13, 14), 0},
		{wide, regions(far, 8, 9, 10, 11, 12, 13, 14), 0},
		{wide, regions(far, 8, 9, 10, 11, 12, 13, 14, 15), 1},
		{narrow, regions(four, 2), 0},
		{narrow, append(regions(four, 2), region(whole, 15, 9)), 1},
		{narrow, append(regions(whole, 15), region(four, 2, 9)), 1},
		{narrow, append(regions(whole, 15, 14, 13, 12), region(four, 2, 9)), 4},
		{narrow, append(regions(whole, 12, 13), region(whole, 15, 9)), 0},
		{narrow, regions(double, 1), 1},
		{narrow, regions(double, 1, 2, 3), 3},
		{narrow, append(regions(double, 1), region(four, 2, 9)), 1},
		{narrow, append(regions(four, 2), region(double, 1, 9)), 2},
		{double, regions(layout(9, 1, 2048, 4), 3), 1},
		{double, append(regions(four, 0, 1, 2, 3, 0, 1, 2), region(layout(9, 1, 16, 4), 3, 0)), 1},
		// the free slot decides
		{double, regions(wide, 0, 2, 4, 6), 1},
		{double, regions(wide, 6, 4, 2, 0), 1},
		{double, regions(wide, 0, 1, 2, 4, 6), 2},
		{double, regions(wide, 0, 2, 1, 4, 6), 2},
		{double, regions(wide, 0, 2, 4, 6, 1), 2},
		{double, regions(whole, 0, 1, 2, 3, 7, 11, 15), 4},
		{layout(9, 1, 8, 16), regions(double, 0, 1, 2, 3), 0},
		// both: the sum alone would be 1, 2, 1 and 3, the free slot alone 2, 1, 1 and 0
		{double, append(regions(layout(9, 1, 16, 4), 3), region(wide, 0, 2), region(wide, 2, 3), region(wide, 4, 4), region(wide, 6, 5)), 2},
		{double, append(regions(wide, 0), region(layout(9, 1, 16, 4), 3, 2), region(wide, 2, 3), region(wide, 4, 4), region(wide, 6, 5)), 2},
		{double, append(regions(wide, 0, 2, 4, 6), regions(far, 12, 13, 14, 15)...), 1},
		{four, append(regions(four, 0), region(whole, 15, 2), region(wide, 7, 3), region(double, 1, 4)), 3},
		// other regions
		{four, slices.Repeat([]api.Region{region(api.Layout{}, 0, 5)}, 20), 0},
		{four, append(slices.Repeat([]api.Region{region(layout(1, 1, 3, 4), 0, 0)}, 20), regions(four, 0, 1, 2, 3)...), 21},
		{four, append(slices.Repeat([]api.Region{region(layout(1, 1, 3, 4), 0, 9)}, 20), regions(four, 0, 1, 2, 3)...), 1},
	} {
		expectCut(t, x.target, x.live, x.want)
		expectSlots(t, x.target, x.live)
	}
}

// TestCutOfEveryOrder has regions of different sizes, so that it matters which of them are the oldest ones, and not where they are in the list.
func TestCutOfEveryOrder(t *testing.T) {
	live := []api.Region{region(double, 0, -9), region(four, 2, 1), region(narrow, 0, 2), region(wide, 3, 3), region(layout(8, 1, 2, 16), 15, 4), region(layout(1, 1, 3, 4), 1, 5)}
	for _, x := range []struct {
		target api.Layout
		want   int
	}{{four, 1}, {narrow, 4}, {wide, 0}, {double, 0}, {layout(9, 1, 2, 7), 2}, {layout(9, 1, 4, 5), 1}, {layout(9, 1, 8, 5), 0}, {api.Layout{}, 6}} {
		permute(slices.Clone(live), 0, func(live []api.Region) {
			expectCut(t, x.target, live, x.want)
		})
		expectSlots(t, x.target, live)
	}
}

// TestCutOfEqualSeqs has a large and small regions that are equally old: those that come first in the list are cut first.
func TestCutOfEqualSeqs(t *testing.T) {
	large, small := region(double, 3, 5), region(layout(8, 1, 2, 16), 15, 5)
	for n := range 40 {
		live := slices.Repeat([]api.Region{small}, n)
		live = append(live, large)
		expectCut(t, narrow, live, n+1)
		expectCut(t, narrow, append(live, small), n+1)
		expectCut(t, narrow, append(live, small, small, small), n+1)
		expectCut(t, narrow, append(live, small, small, small, small), n+2)
		expectCut(t, four, live, max(0, n-2))
		expectCut(t, four, append(live, small, small), n)
		expectCut(t, four, append(live, small, small, small), n+1)
	}
}

// TestManyLists has lists of regions of several layouts, with and without equal Seqs.
func TestManyLists(t *testing.T) {
	random := rand.New(rand.NewPCG(5, 6))
	sizes := []int{2, 2, 4, 4, 8, 16, 3}
	for round := range 4000 {
		var layouts []api.Layout
		for id := range 3 {
			layouts = append(layouts, layout(id+1, 1+random.IntN(2), sizes[random.IntN(len(sizes))], 4+random.IntN(13)))
		}
		var live []api.Region
		for range random.IntN(24) {
			l := layouts[random.IntN(3)]
			seq := random.IntN(1 + round%20)
			if round%5 == 0 {
				seq = seqs[random.IntN(len(seqs))]
			}
			live = append(live, region(l, random.IntN(l.Regions+2)-1, seq))
		}
		for _, target := range []api.Layout{layouts[0], layouts[1], layout(9, 1, sizes[random.IntN(6)], 4+random.IntN(13))} {
			expectOrders(t, target, live)
			expectSlots(t, target, live)
		}
	}
}

// TestBothReasons looks for lists where the sum decides, where the free slot does, and where both do, and where none or all of the regions are cut.
func TestBothReasons(t *testing.T) {
	random := rand.New(rand.NewPCG(7, 8))
	found := map[string]int{}
	for range 6000 {
		target := layout(9, 1, 1<<(1+random.IntN(3)), 4+random.IntN(4))
		l := layout(8, 1, 1<<(1+random.IntN(4)), 4+random.IntN(13))
		var live []api.Region
		for i, slot := range random.Perm(l.Regions) {
			live = append(live, region(l, slot, i))
		}
		live = live[:random.IntN(len(live)+1)]
		k := slowCut(target, live)
		expectCut(t, target, shuffled(live, random), k)
		if k == 0 {
			found["none"]++
			continue
		}
		isSum, isSlot := !fits(target, live[k-1:]), len(slowFree(target, live[k-1:])) == 0
		switch {
		case isSum && isSlot:
			found["both"]++
		case isSum:
			found["sum"]++
		case isSlot:
			found["slot"]++
		}
		if k == len(live) {
			found["all"]++
		}
	}
	for _, name := range []string{"none", "sum", "slot", "both", "all"} {
		if found[name] < 20 {
			t.Errorf("there are %d lists of the kind %q", found[name], name)
		}
	}
}

// TestLongLists has far more regions than a cache has.
func TestLongLists(t *testing.T) {
	const n = 50000
	random := rand.New(rand.NewPCG(9, 10))
	var live []api.Region
	for i := range n {
		live = append(live, region(four, i%4, i-n/2))
	}
	want := slices.Clone(live)
	live = shuffled(live, random)
	if got := Order(live); !slices.Equal(got, want) {
		t.Error("Order of a long list")
	}
	if got := Tail(live, 0); got != -n/2 {
		t.Error("Tail of a long list", got)
	}
	if got := Foreign(wide, live); !slices.Equal(got, want) {
		t.Error("Foreign of a long list")
	}
	if got := Foreign(four, live); len(got) != 0 {
		t.Error("Foreign of a long list has regions of target", len(got))
	}
	if slot, ok := Choose(wide, live); slot != 4 || !ok || Spare(four, live, -1) || !Spare(wide, live, 4) {
		t.Error("Choose or Spare of a long list", slot, ok)
	}
	for _, x := range []struct {
		target api.Layout
		want   int
	}{{four, n - 3}, {wide, n - 7}, {narrow, n - 1}, {double, n - 7}, {api.Layout{}, n}} {
		if got := Cut(x.target, live); got != x.want {
			t.Errorf("Cut(%+v) of a long list = %d", x.target, got)
		}
	}
}

// callAll calls all functions, and spoils what they return.
func callAll(target api.Layout, live []api.Region) {
	for _, result := range [][]api.Region{Order(live), Foreign(target, live)} {
		result = result[:cap(result)]
		for i := range result {
			result[i] = api.Region{Header: api.Header{Seq: -77}}
		}
	}
	Tail(live, 5)
	Choose(target, live)
	Spare(target, live, 1)
	Cut(target, live)
}

// TestListsStayAsTheyAre looks at the memory around the list, too.
func TestListsStayAsTheyAre(t *testing.T) {
	for _, n := range []int{0, 1, 2, 3, 7, 12, 13, 16, 20, 50} {
		for _, kinds := range []int{1, 3, 100} {
			var all []int
			for i := range n + 20 {
				all = append(all, (n-i)*31%kinds)
			}
			whole := marked(all...)
			before := slices.Clone(whole)
			list := whole[10 : n+10]
			for _, target := range []api.Layout{four, wide, narrow, double, layout(9, 1, 4, 4), {}} {
				callAll(target, list)
				if !slices.Equal(whole, before) {
					t.Fatalf("a call with target %+v changes the list of %d regions, or the memory around it", target, n)
				}
			}
		}
	}
}

// TestResultsAreApart spoils a result, and the list that it was made of, and looks at the others.
func TestResultsAreApart(t *testing.T) {
	for _, n := range []int{1, 2, 13, 40} {
		var all []int
		for i := range n {
			all = append(all, i/2)
		}
		live := marked(all...)
		for _, call := range []func() []api.Region{
			func() []api.Region { return Order(live) },
			func() []api.Region { return Foreign(layout(99, 1, 4, 4), live) },
		} {
			want := slices.Clone(live)
			first, second := call(), call()
			clear(first[:cap(first)])
			if !slices.Equal(second, want) || !slices.Equal(live, want) {
				t.Errorf("a result for %d regions shares memory with the list or with another result", n)
			}
			clear(live)
			if !slices.Equal(second, want) {
				t.Errorf("a result for %d regions changes with the list", n)
			}
			copy(live, want)
		}
	}
}

func TestNilAndEmptyLists(t *testing.T) {
	spare := marked(3, 1, 2)
	for _, live := range [][]api.Region{nil, {}, spare[1:1], spare[3:]} {
		for _, target := range []api.Layout{four, narrow, layout(1<<32-1, 2, 2048, 16)} {
			expectChoose(t, target, live, 0, true)
			expectSpare(t, target, live, 0, true)
			expectCut(t, target, live, 0)
		}
		expectChoose(t, api.Layout{}, live, -1, false)
		expectSpare(t, api.Layout{}, live, 0, false)
		expectCut(t, api.Layout{}, live, 0)
		if len(Order(live)) != 0 || len(Foreign(four, live)) != 0 || len(Foreign(api.Layout{}, live)) != 0 {
			t.Error("regions of an empty list")
		}
		for _, next := range seqs {
			if got := Tail(live, next); got != next {
				t.Errorf("Tail(no regions, %d) = %d", next, got)
			}
		}
	}
}

// TestNothingIsKept repeats calls in turns: each result depends on the arguments alone.
func TestNothingIsKept(t *testing.T) {
	for range 3 {
		for _, target := range []api.Layout{four, {}, narrow, wide} {
			for _, live := range [][]api.Region{regions(four, 0, 1, 2), nil, marked(9, 3, 5, 3), regions(double, 3, 2, 1, 0)} {
				expectOrders(t, target, live)
				expectSlots(t, target, live)
			}
		}
	}
}
