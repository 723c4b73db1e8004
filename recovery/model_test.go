package recovery

import (
	"maps"
	"slices"

	"flashcache/api"
	"flashcache/flashdev"
	"flashcache/frame"
	"flashcache/header"
	"flashcache/plan"
	"flashcache/record"
	"flashcache/superblock"
)

// slowLoad is the chapter word for word: it reads each sector for itself, and calls only what decodes a sector or a record.
func slowLoad(d *flashdev.Device, now int) (State, api.Errno) {
	if d == nil || d.Dead() {
		return State{}, api.ErrDown
	}
	if now < 0 || now > 1<<39 {
		return State{}, api.ErrRange
	}
	super, ok := slowSuper(d)
	if !ok || slices.ContainsFunc(slowLayouts(super), func(l api.Layout) bool { return end(l) > d.Sectors() }) {
		return State{}, api.ErrForm
	}
	found, tails := slowCandidates(d, super), slowTails(d, super)
	s := State{Super: super, Plans: len(tails), Tail: super.Tail, Now: now}
	var seqs, nows []int
	for _, r := range found {
		seqs = append(seqs, r.Header.Seq)
		tails = append(tails, r.Header.Tail)
		nows = append(nows, r.Header.Now)
	}
	s.Tail = slices.Max(append(tails, super.Tail))
	s.Next = max(1, s.Tail, 1+slices.Max(append(seqs, 0)))
	s.Now = slices.Max(append(nows, now, super.Now))
	s.Regions = slowLive(found, s.Tail)
	s.Pairs = slowPairs(d, s.Regions, s.Now)
	return s, api.OK
}

// end returns how many sectors a device needs for all slots of l.
func end(l api.Layout) int {
	return 74 + l.Regions*l.RegionSectors
}

// first returns the first sector of a slot.
func first(l api.Layout, slot int) int {
	return 74 + slot*l.RegionSectors
}

// sector returns the bytes of a sector, or nil if there is none with that number.
func sector(d *flashdev.Device, i int) []byte {
	b, _ := d.Read(i)
	return b
}

func slowSuper(d *flashdev.Device) (api.Super, bool) {
	if d.Sectors() < 2 {
		return api.Super{}, false
	}
	even, isEven := superblock.Decode(sector(d, 0), 0)
	odd, isOdd := superblock.Decode(sector(d, 1), 1)
	isEven = isEven && even.Gen%2 == 0
	isOdd = isOdd && odd.Gen%2 == 1
	if isEven && (!isOdd || even.Gen > odd.Gen) {
		return even, true
	}
	return odd, isOdd
}

func slowLayouts(super api.Super) []api.Layout {
	return append([]api.Layout{super.Target}, super.Foreign...)
}

func slowCandidates(d *flashdev.Device, super api.Super) []api.Region {
	var found []api.Region
	for _, l := range slowLayouts(super) {
		for slot := range l.Regions {
			h, ok := header.Decode(sector(d, first(l, slot)), first(l, slot))
			if ok && h.Version == l.Version && h.Layout == l.ID && h.Slot == slot {
				found = append(found, api.Region{Header: h, Layout: l})
			}
		}
	}
	return found
}

// slowTails returns the Tails of the plan records that count.
func slowTails(d *flashdev.Device, super api.Super) []int {
	var tails []int
	half := 2
	if super.Migration%2 == 0 {
		half = 38
	}
	for i := range 36 {
		p, ok := plan.Decode(sector(d, half+i), half+i)
		if super.Phase == 1 || !ok || p.Migration != super.Migration || p.Index != i {
			break
		}
		tails = append(tails, p.Tail)
	}
	return tails
}

// isBefore reports whether a is examined before b.
func isBefore(a, b api.Region) bool {
	if a.Header.Seq != b.Header.Seq {
		return a.Header.Seq > b.Header.Seq
	}
	if a.Header.Layout != b.Header.Layout {
		return a.Header.Layout > b.Header.Layout
	}
	return a.Header.Slot > b.Header.Slot
}

// slowLive looks for the next candidate again and again, and marks the sectors and the Seqs of those that are live.
func slowLive(found []api.Region, tail int) []api.Region {
	var live []api.Region
	sectors, seqs := map[int]bool{}, map[int]bool{}
	for rest := slices.Clone(found); len(rest) > 0; {
		next := 0
		for i := range rest {
			if isBefore(rest[i], rest[next]) {
				next = i
			}
		}
		r := rest[next]
		rest = slices.Delete(rest, next, next+1)
		isLive := r.Header.Seq >= tail && !seqs[r.Header.Seq]
		for i := range r.Layout.RegionSectors {
			isLive = isLive && !sectors[first(r.Layout, r.Header.Slot)+i]
		}
		if !isLive {
			continue
		}
		live = append([]api.Region{r}, live...)
		seqs[r.Header.Seq] = true
		for i := range r.Layout.RegionSectors {
			sectors[first(r.Layout, r.Header.Slot)+i] = true
		}
	}
	return live
}

func slowStream(d *flashdev.Device, r api.Region) []byte {
	var stream []byte
	for i := first(r.Layout, r.Header.Slot) + 1; i < first(r.Layout, r.Header.Slot+1); i++ {
		payload, ok := frame.Decode(api.FrameData, r.Header.Seq, i, sector(d, i))
		if !ok {
			break
		}
		stream = append(stream, payload...)
	}
	return stream
}

func slowPairs(d *flashdev.Device, live []api.Region, now int) []api.Pair {
	entries := map[string]api.Entry{}
	for _, r := range live {
		stream := slowStream(d, r)
		for off := 0; off < len(stream); {
			x, n, ok := record.Decode(r.Layout.Version, r.Header.Seq, off, stream[off:])
			switch {
			case stream[off] == 0:
				n = 59 - off%59
			case !ok:
				n = len(stream)
			case x.Kind == 1:
				entries[string(x.Key)] = api.Entry{Seq: r.Header.Seq, Off: off, Len: n, Expiry: x.Expiry}
			case x.Kind == 2:
				delete(entries, string(x.Key))
			case x.Kind == 3:
				clear(entries)
			}
			off += n
		}
	}
	var pairs []api.Pair
	for _, key := range slices.Sorted(maps.Keys(entries)) {
		if e := entries[key]; e.Expiry == 0 || e.Expiry > now {
			pairs = append(pairs, api.Pair{Key: key, Entry: e})
		}
	}
	return pairs
}
