package recovery

import (
	"fmt"
	"slices"
	"testing"

	"flashcache/api"
	"flashcache/flashdev"
)

// permute calls do with each order of all[n:], after all[:n].
func permute(all []api.Region, n int, do func([]api.Region)) {
	if n == len(all) {
		do(all)
		return
	}
	for i := n; i < len(all); i++ {
		all[n], all[i] = all[i], all[n]
		permute(all, n+1, do)
		all[n], all[i] = all[i], all[n]
	}
}

// erase overwrites the headers of regions with zeros.
func erase(t *testing.T, d *flashdev.Device, all ...api.Region) {
	t.Helper()
	for _, r := range all {
		overwrite(t, d, first(r.Layout, r.Header.Slot), nil, api.OK)
	}
}

// share reports whether two regions have a sector in common.
func share(a, b api.Region) bool {
	for i := range a.Layout.RegionSectors {
		for k := range b.Layout.RegionSectors {
			if first(a.Layout, a.Header.Slot)+i == first(b.Layout, b.Header.Slot)+k {
				return true
			}
		}
	}
	return false
}

// beginTogether reports whether two regions have their headers in the same sector.
func beginTogether(a, b api.Region) bool {
	return first(a.Layout, a.Header.Slot) == first(b.Layout, b.Header.Slot)
}

func TestTheTailDecides(t *testing.T) {
	home, target := layout(3, 1, 4, 6), layout(4, 2, 8, 5)
	for _, tail := range []int{1, 2, 20, 1 << 32, 1<<48 - 2} {
		super, journaled := device(t, end(target), migrating(tail, 0, target, home)), device(t, end(target), migrating(0, 0, target, home))
		journal(t, journaled, 8, target, 0, tail)
		below, equal, above := at(home, 5, max(1, tail-1)), at(target, 0, tail), at(home, 2, tail+1)
		for _, d := range []*flashdev.Device{super, journaled} {
			put(t, d, equal, above)
			expectLive(t, "equal and above", d, equal, above)
			put(t, d, below)
			if tail > 1 {
				expectLive(t, "below, equal and above", d, equal, above)
			}
			erase(t, d, equal, above)
			if tail > 1 {
				expectLive(t, "below", d)
			}
			put(t, d, with(above, tail+1, 0))
			expectLive(t, "the Tail of a region is its own Seq", d, with(above, tail+1, 0))
			put(t, d, equal)
			expectLive(t, "the Tail of a region is above another one", d, with(above, tail+1, 0))
		}
	}
}

// TestEqualSeqsInOneLayout has the same Seq in each set of slots, beside an older and a younger region.
func TestEqualSeqsInOneLayout(t *testing.T) {
	for _, l := range []api.Layout{layout(3, 1, 4, 6), layout(3, 2, 2, 7)} {
		older, younger := at(l, 5, 20), at(l, 0, 40)
		for set := range 16 {
			var all []api.Region
			for slot := range 4 {
				if set>>slot&1 == 1 {
					all = append(all, at(l, slot+1, 30))
				}
			}
			d := device(t, end(l), stable(1, 0, l))
			put(t, d, all...)
			put(t, d, older, younger)
			if len(all) == 0 {
				expectLive(t, "no equal Seqs", d, older, younger)
			} else {
				expectLive(t, "equal Seqs", d, older, all[len(all)-1], younger)
			}
		}
	}
}

// TestEqualSeqsInTwoLayouts has the same Seq in each two slots that are apart: the greater ID counts, whichever slot it has.
func TestEqualSeqsInTwoLayouts(t *testing.T) {
	for _, ids := range [][2]int{{3, 4}, {4, 3}, {1, 1<<32 - 1}, {1<<32 - 1, 1}, {255, 256}, {256, 255}} {
		for _, sizes := range [][2]int{{4, 4}, {2, 4}, {4, 2}} {
			home, target := layout(ids[0], 1, sizes[0], 6), layout(ids[1], 1, sizes[1], 6)
			d := device(t, max(end(home), end(target)), migrating(1, 0, target, home))
			for i := range 6 {
				for k := range 6 {
					a, b := at(home, i, 7), at(target, k, 7)
					if beginTogether(a, b) {
						continue
					}
					put(t, d, a, b)
					if ids[0] > ids[1] {
						expectLive(t, "the greater ID is at home", d, a)
					} else {
						expectLive(t, "the greater ID is the target's", d, b)
					}
					erase(t, d, a, b)
				}
			}
		}
	}
}

// TestEqualSeqsInThreeLayouts has the same Seq in several slots of each layout, for all orders of the IDs: the greatest ID counts, and of its slots the greatest one.
func TestEqualSeqsInThreeLayouts(t *testing.T) {
	for _, ids := range [][3]int{{1, 2, 3}, {1, 3, 2}, {2, 1, 3}, {2, 3, 1}, {3, 1, 2}, {3, 2, 1}} {
		home, second := layout(ids[0], 1, 4, 8), layout(ids[1], 2, 8, 5)
		s := returning(1, 0, ids[2], home, second)
		all := []api.Region{at(home, 7, 9), at(home, 0, 9), at(second, 1, 9), at(second, 2, 9), at(s.Target, 1, 9), at(s.Target, 6, 9)}
		permute(all, 0, func(order []api.Region) {
			if t.Failed() {
				return
			}
			for n := 1; n <= len(order); n++ {
				last := slices.MaxFunc(order[:n], func(a, b api.Region) int {
					return 100*(a.Layout.ID-b.Layout.ID) + a.Header.Slot - b.Header.Slot
				})
				d := flashdev.New(end(second))
				publish(t, d, s)
				put(t, d, order[:n]...)
				expectLive(t, "equal Seqs", d, last)
			}
		})
	}
}

// TestOverlaps has each two slots of layouts with regions of all small sizes.
func TestOverlaps(t *testing.T) {
	together, apart := 0, 0
	for _, x := range []int{2, 4, 8, 16, 32} {
		for _, y := range []int{2, 4, 8, 16, 32} {
			home, target := layout(4, 1, x, 5), layout(3, 2, y, 6)
			d := device(t, max(end(home), end(target)), migrating(1, 0, target, home))
			for i := range 5 {
				for k := range 6 {
					a, b := at(home, i, 8), at(target, k, 7)
					put(t, d, b, a)
					switch {
					case beginTogether(a, b):
						expectLive(t, "one header lies on the other", d, a)
						put(t, d, b)
						expectLive(t, "the older header lies on the other", d, b)
					case share(a, b):
						expectLive(t, "the foreign region is younger", d, a)
						b.Header.Seq = 9
						put(t, d, b)
						expectLive(t, "the foreign region is older", d, b)
						together++
					default:
						expectLive(t, "the regions are apart", d, b, a)
						b.Header.Seq = 9
						put(t, d, b)
						expectLive(t, "the regions are apart", d, a, b)
						apart++
					}
					erase(t, d, a, b)
				}
			}
		}
	}
	if together < 60 || apart < 600 {
		t.Errorf("%d pairs overlap, and %d do not", together, apart)
	}
}

// TestLargeRegions has a region of the greatest size over small ones that lie in its sectors, and up to its edge.
func TestLargeRegions(t *testing.T) {
	large, tiny := layout(3, 1, 2048, 4), layout(4, 1, 128, 16)
	d := flashdev.New(end(large))
	publish(t, d, migrating(1, 0, large, tiny))
	put(t, d, at(large, 0, 30))
	var all []api.Region
	for slot := 1; slot < 16; slot++ {
		all = append(all, at(tiny, slot, 10+slot))
	}
	put(t, d, all...)
	expectLive(t, "the large region hides the small ones", d, at(large, 0, 30))
	all[14].Header.Seq = 31
	put(t, d, all[14])
	expectLive(t, "the last small region hides the large one", d, all...)
	put(t, d, at(large, 1, 40))
	expectLive(t, "another large region is behind it", d, append(all, at(large, 1, 40))...)
	all[14].Header.Seq = 25
	put(t, d, all[14])
	expectLive(t, "the large region is younger again", d, at(large, 0, 30), at(large, 1, 40))
}

// TestWhatIsHidden has results worked out by hand. The slots 4 * i to 4 * i + 3 of narrow lie in the slot i of wide.
func TestWhatIsHidden(t *testing.T) {
	for _, greater := range []bool{false, true} { // the ID of wide
		wide, narrow := layout(3, 1, 8, 4), layout(4, 2, 2, 16)
		if greater {
			wide.ID = 5
		}
		w := func(slot, seq int) api.Region { return at(wide, slot, seq) }
		n := func(slot, seq int) api.Region { return at(narrow, slot, seq) }
		type regions = []api.Region
		for _, x := range []struct {
			all, want, other regions // other: if the ID of wide is greater, and want does not hold then
		}{
			{nil, nil, nil},
			{regions{w(0, 9)}, regions{w(0, 9)}, nil},
			{regions{w(0, 9), n(1, 8)}, regions{w(0, 9)}, nil},
			{regions{w(0, 8), n(1, 9)}, regions{n(1, 9)}, nil},
			{regions{w(0, 9), n(5, 8)}, regions{n(5, 8), w(0, 9)}, nil},
			{regions{w(0, 8), n(4, 9)}, regions{w(0, 8), n(4, 9)}, nil},
			// one hides several, and several hide one
			{regions{w(0, 9), n(1, 8), n(2, 7), n(3, 6)}, regions{w(0, 9)}, nil},
			{regions{w(0, 6), n(1, 9), n(2, 8), n(3, 7)}, regions{n(3, 7), n(2, 8), n(1, 9)}, nil},
			{regions{w(0, 6), n(3, 9), n(2, 8), n(1, 7)}, regions{n(1, 7), n(2, 8), n(3, 9)}, nil},
			{regions{w(0, 9), n(1, 10), n(2, 8), n(3, 11)}, regions{n(2, 8), n(1, 10), n(3, 11)}, nil},
			// what is hidden hides nothing
			{regions{n(1, 9), w(0, 8), n(3, 7)}, regions{n(3, 7), n(1, 9)}, nil},
			{regions{n(3, 9), w(0, 8), n(1, 7), n(2, 6)}, regions{n(2, 6), n(1, 7), n(3, 9)}, nil},
			{regions{n(1, 9), w(0, 8), n(5, 6), w(1, 7), n(6, 5)}, regions{w(1, 7), n(1, 9)}, nil},
			// the same Seq: the greater ID counts, and what does not count hides nothing
			{regions{w(0, 9), n(1, 9)}, regions{n(1, 9)}, regions{w(0, 9)}},
			{regions{w(1, 9), n(1, 9)}, regions{n(1, 9)}, regions{w(1, 9)}},
			{regions{w(1, 9), n(1, 9), n(5, 8)}, regions{n(5, 8), n(1, 9)}, regions{w(1, 9)}},
			{regions{w(1, 9), n(1, 9), n(3, 8)}, regions{n(3, 8), n(1, 9)}, regions{n(3, 8), w(1, 9)}},
			{regions{w(1, 9), n(1, 9), n(2, 9)}, regions{n(2, 9)}, regions{w(1, 9)}},
			{regions{w(1, 9), w(2, 9), n(1, 9), n(5, 8)}, regions{n(5, 8), n(1, 9)}, regions{n(5, 8), w(2, 9)}},
			// the one that would count is hidden, so another one of the same Seq does
			{regions{w(0, 10), n(1, 9), w(1, 9)}, regions{w(1, 9), w(0, 10)}, nil},
			{regions{w(0, 10), n(3, 9), n(2, 9), n(5, 9)}, regions{n(5, 9), w(0, 10)}, nil},
			{regions{w(1, 10), n(3, 9), n(2, 9), n(5, 9)}, regions{n(3, 9), w(1, 10)}, nil},
			{regions{n(1, 10), w(0, 9), n(5, 9)}, regions{n(5, 9), n(1, 10)}, nil},
			{regions{n(1, 10), w(0, 9), w(2, 9), n(5, 9)}, regions{n(5, 9), n(1, 10)}, regions{w(2, 9), n(1, 10)}},
			// what is dead hides nothing: the Tail is 5
			{regions{w(0, 4), n(1, 5)}, regions{n(1, 5)}, nil},
			{regions{w(0, 5), n(1, 4)}, regions{w(0, 5)}, nil},
			{regions{w(0, 4), n(1, 3), w(1, 4), n(9, 5)}, regions{n(9, 5)}, nil},
			{regions{w(0, 6), n(1, 5), n(2, 4), n(5, 4), n(6, 5)}, regions{n(6, 5), w(0, 6)}, nil},
		} {
			want := x.want
			if greater && x.other != nil {
				want = x.other
			}
			for _, s := range []api.Super{migrating(5, 0, wide, narrow), migrating(5, 0, narrow, wide)} {
				d := device(t, end(wide), s)
				put(t, d, x.all...)
				expectLive(t, fmt.Sprint("the candidates are ", x.all), d, want...)
			}
		}
	}
}

// TestEveryThreeRegions has each three slots of two layouts, with all Seqs of three, the least of which are dead in some of them.
func TestEveryThreeRegions(t *testing.T) {
	for _, ids := range [][2]int{{3, 4}, {4, 3}} {
		wide, narrow := layout(ids[0], 1, 4, 4), layout(ids[1], 1, 2, 8)
		d := device(t, end(wide), migrating(1, 0, wide, narrow))
		dead := device(t, end(wide), migrating(2, 0, wide, narrow))
		var slots []api.Region
		for slot := range 4 {
			slots = append(slots, at(wide, slot, 1), at(narrow, 2*slot+1, 1))
		}
		for i := range slots {
			for k := range i {
				for m := range k {
					for seqs := range 27 {
						a, b, c := slots[i], slots[k], slots[m]
						a.Header.Seq, b.Header.Seq, c.Header.Seq = 1+seqs%3, 1+seqs/3%3, 1+seqs/9
						put(t, d, a, b, c)
						expectSlow(t, "three regions", d, 0)
						put(t, dead, a, b, c)
						expectSlow(t, "three regions, the Tail is 2", dead, 0)
					}
					erase(t, d, slots[i], slots[k], slots[m])
					erase(t, dead, slots[i], slots[k], slots[m])
				}
			}
		}
	}
}

// TestTheOrderOfRegions has all orders of the Seqs of six slots.
func TestTheOrderOfRegions(t *testing.T) {
	want := []api.Region{at(small, 0, 5), at(small, 1, 6), at(small, 2, 9), at(small, 3, 255), at(small, 4, 1<<40), at(small, 5, 1<<48-1)}
	permute(slices.Clone(want), 0, func(order []api.Region) {
		if t.Failed() {
			return
		}
		var byLayout []api.Region
		d := flashdev.New(end(small))
		publish(t, d, stable(1, 0, small))
		for slot, r := range order {
			r.Header.Slot = slot
			put(t, d, r)
			byLayout = append(byLayout, r)
		}
		slices.SortFunc(byLayout, func(a, b api.Region) int { return a.Header.Seq - b.Header.Seq })
		expectLive(t, "all slots", d, byLayout...)
	})
}

// TestAllSlotsOfAllLayouts has layouts of all sizes, with a region in each slot.
func TestAllSlotsOfAllLayouts(t *testing.T) {
	for k := range 11 {
		for regions := 4; regions <= 16; regions++ {
			l := layout(1+k, 1+regions%2, 2<<k, regions)
			d := flashdev.New(end(l))
			publish(t, d, stable(3, 0, l))
			var want []api.Region
			var pairs []api.Pair
			for i := range regions {
				slot := 23 * i % regions // each slot once, as 23 is a greater prime
				r := with(at(l, slot, 3+i), i, i)
				write(t, d, r, value(string(rune('a'+i)), "value", 0))
				if 3+i >= regions-1 { // the Tail of the last one
					want = append(want, r)
					pairs = append(pairs, pair(string(rune('a'+i)), 3+i, 0, 22, 0))
				}
			}
			expect(t, "all slots", d, 0, State{Super: stable(3, 0, l), Regions: want, Tail: max(3, regions-1), Next: 3 + regions, Now: regions - 1, Pairs: pairs})
		}
	}
}

// TestAllSlotsOfThreeLayouts has as many candidates as there can be, and then removes the live ones, which brings others to light, until there are none.
func TestAllSlotsOfThreeLayouts(t *testing.T) {
	home, second := layout(3, 1, 2, 16), layout(4, 1, 4, 16)
	s := returning(1, 0, 5, home, second)
	for _, step := range []int{1, 3, 5, 7, 11} {
		d := device(t, end(second), s)
		for i := range 48 {
			seq := 1 + i*step%48/6
			put(t, d, []api.Region{at(home, i%16, seq), at(s.Target, i%16, seq), at(second, i%16, seq)}[i/16])
		}
		rounds := 0
		for {
			state := expectSlow(t, "all slots", d, 0)
			if len(state.Regions) == 0 {
				break
			}
			rounds++
			erase(t, d, state.Regions...)
		}
		if rounds < 3 {
			t.Errorf("the candidates are gone after %d rounds", rounds)
		}
	}
}

// TestHeadersThatAreNotFound has headers that do not belong where they are, or to a layout of the superblock.
func TestHeadersThatAreNotFound(t *testing.T) {
	home, target := layout(3, 1, 4, 6), layout(4, 2, 4, 6)
	d := device(t, end(target), migrating(1, 0, target, home))
	upgraded, third := home, layout(5, 2, 4, 6)
	upgraded.Version = 2
	put(t, d, with(at(upgraded, 0, 90), 80, 80)) // another version than home has
	put(t, d, with(at(third, 1, 91), 80, 80))    // a layout that the superblock does not have
	put(t, d, with(at(layout(4, 2, 2, 16), 4, 92), 80, 80))
	put(t, d, with(at(layout(4, 2, 2, 16), 5, 92), 80, 80)) // where no slot begins
	put(t, d, with(at(layout(4, 2, 4, 16), 5, 6), 0, 0))
	expectNumbers(t, "one of them is found", d, 1, 7, 0)
	expectLive(t, "one of them is found", d, at(target, 5, 6))
	d = device(t, end(target)+16, stable(1, 0, target))
	put(t, d, with(at(layout(4, 2, 4, 16), 6, 93), 80, 80)) // behind the last slot
	put(t, d, with(at(home, 2, 94), 80, 80))                // of a layout that is not left
	expectNumbers(t, "none of them is found", d, 1, 1, 0)
	expectLive(t, "none of them is found", d)
}

// TestALog opens the regions of a layout in turns, as a cache does, and reads the device at every moment.
func TestALog(t *testing.T) {
	for version := 1; version <= 2; version++ {
		l := layout(3, version, 4, 5)
		d := device(t, end(l), stable(1, 0, l))
		var log []api.Region
		for seq := 1; seq <= 23; seq++ {
			r := with(at(l, (2*seq)%5, seq), max(0, seq-3), 10*seq)
			key := string(rune('a' + seq))
			write(t, d, r, value(key, "first", 0), sync, value(key, "second", 0))
			log = append(log, r)
			var pairs []api.Pair
			for _, x := range log[max(0, seq-4):] {
				pairs = append(pairs, pair(string(rune('a'+x.Header.Seq)), x.Header.Seq, 59, 23, 0))
			}
			want := State{Super: stable(1, 0, l), Regions: log[max(0, seq-4):], Tail: max(1, seq-3), Next: seq + 1, Now: 10 * seq, Pairs: pairs}
			expect(t, "a log", d, 0, want)
			expect(t, "a log, after a crash", d.Crash(nil, nil), 0, want)
		}
	}
}
