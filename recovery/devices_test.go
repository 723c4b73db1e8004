package recovery

import (
	"bytes"
	"math/rand/v2"
	"slices"
	"testing"

	"flashcache/api"
	"flashcache/flashdev"
	"flashcache/frame"
	"flashcache/plan"
	"flashcache/region"
	"flashcache/superblock"
)

// randomSuper returns a superblock of any phase, whose layouts have up to six regions of 2, 4 and so on sectors.
func randomSuper(random *rand.Rand, sizes int) api.Super {
	ids := random.Perm(5)
	next := func(id int) api.Layout {
		return layout(1+id, 1+random.IntN(2), 2<<random.IntN(sizes), 4+random.IntN(3))
	}
	home, other := next(ids[0]), next(ids[1])
	tail, now := random.IntN(5), random.IntN(10)
	s := []api.Super{stable(tail, now, other), migrating(tail, now, other, home), returning(tail, now, 1+ids[2], home, other)}[random.IntN(3)]
	s.Migration = 1 + random.IntN(5)
	return s
}

// randomRecord returns a short record with one of a few keys.
func randomRecord(random *rand.Rand) api.Record {
	key := string(rune('a' + random.IntN(8)))
	switch n := random.IntN(30); {
	case n == 0:
		return flush()
	case n < 5:
		return tombstone(key)
	case n < 10:
		return sync
	case n == 10:
		return value(key, string(make([]byte, 60)), 0)
	}
	return value(key, "value"[:random.IntN(6)], max(0, random.IntN(20)-8))
}

// randomRegion writes a region of one of these layouts with some records.
func randomRegion(t *testing.T, random *rand.Rand, d *flashdev.Device, all []api.Layout) {
	t.Helper()
	l := all[random.IntN(len(all))]
	r := at(l, random.IntN(l.Regions), 1+random.IntN(14))
	open, e := region.Open(d, l, with(r, min(r.Header.Seq, random.IntN(5)), random.IntN(10)).Header)
	if e != api.OK {
		t.Fatalf("no region to test with: %+v, error %d", r, e)
	}
	for range random.IntN(12) {
		if x := randomRecord(random); x.Kind == 0 {
			open.Sync()
		} else {
			open.Append(x)
		}
	}
	if random.IntN(4) > 0 {
		open.Sync()
	}
}

// damage changes a sector of d.
func damage(t *testing.T, random *rand.Rand, d *flashdev.Device) {
	t.Helper()
	i, k := random.IntN(d.Sectors()), random.IntN(d.Sectors())
	b := sector(d, i)
	switch random.IntN(4) {
	case 0:
		clear(b)
	case 1:
		b = noise(64, random.Uint32())
	case 2:
		b = sector(d, k)
	default:
		b[random.IntN(64)] ^= 1 << random.IntN(8)
	}
	overwrite(t, d, i, b, api.OK)
}

// randomDevice returns a device with two superblocks, plan records and regions of several layouts, some of which lie on others. A few sectors of it are damaged, lost or torn.
func randomDevice(t *testing.T, random *rand.Rand, sizes int) *flashdev.Device {
	t.Helper()
	older, s := randomSuper(random, sizes), randomSuper(random, sizes)
	s.Gen = 1 + older.Gen
	sectors := 0
	for _, l := range slowLayouts(s) {
		sectors = max(sectors, end(l))
	}
	switch random.IntN(20) {
	case 0:
		sectors--
	case 1, 2:
		sectors += random.IntN(3)
	}
	d := flashdev.Load(noise(64*sectors, random.Uint32()))
	if random.IntN(2) == 0 {
		d = flashdev.New(sectors)
	}
	publish(t, d, older)
	publish(t, d, s)
	for range random.IntN(4) {
		tails := []int{random.IntN(7), random.IntN(7), random.IntN(7)}
		journal(t, d, max(1, s.Migration-2+random.IntN(5)), s.Target, tails[:1+random.IntN(3)]...)
	}
	layouts := slices.DeleteFunc(append(slowLayouts(older), slowLayouts(s)...), func(l api.Layout) bool { return end(l) > sectors })
	layouts = append(layouts, slices.Repeat(slowLayouts(s), 8)...)
	for range random.IntN(20) {
		randomRegion(t, random, d, layouts)
	}
	for range max(0, random.IntN(5)-2) {
		damage(t, random, d)
	}
	if random.IntN(3) > 0 {
		return d
	}
	return d.Crash([]bool{random.IntN(2) == 0, random.IntN(2) == 0}, []api.Tear{{K: random.IntN(3), N: random.IntN(64)}})
}

// TestRandomDevices counts what there is on the devices, so that it is known that they tell something.
func TestRandomDevices(t *testing.T) {
	random := rand.New(rand.NewPCG(1, 2))
	var errors, hidden, mixed, plans, pairs, later int
	for range 8000 {
		d := randomDevice(t, random, 3)
		now := random.IntN(12)
		s := expectSlow(t, "a random device", d, now)
		if s.Next == 0 {
			errors++
			continue
		}
		found := slowCandidates(d, s.Super)
		if slices.ContainsFunc(found, func(r api.Region) bool { return r.Header.Seq >= s.Tail && !slices.Contains(s.Regions, r) }) {
			hidden++
		}
		if slices.ContainsFunc(s.Regions, func(r api.Region) bool { return r.Layout != s.Regions[0].Layout }) {
			mixed++
		}
		plans += min(s.Plans, 1)
		pairs += min(len(s.Pairs), 1)
		if s.Now > max(now, s.Super.Now) && s.Tail > s.Super.Tail {
			later++
		}
	}
	if errors < 50 || errors > 2000 || min(hidden, mixed, plans, pairs, later) < 500 {
		t.Error("too few devices of a kind:", errors, hidden, mixed, plans, pairs, later)
	}
}

// TestChangedBytes changes each byte of a device with regions of three layouts and plan records.
func TestChangedBytes(t *testing.T) {
	home, second := layout(3, 1, 4, 4), layout(4, 2, 2, 8)
	s, older := returning(2, 3, 5, home, second), migrating(1, 1, second, home)
	older.Migration = 9
	d := device(t, 92, s)
	publish(t, d, older)
	journal(t, d, 9, second, 2, 3, 4)
	write(t, d, with(at(home, 1, 5), 2, 3), value("a", "1", 0), value("b", "2", 9), value("c", "3", 0))
	write(t, d, with(at(second, 1, 7), 4, 9), tombstone("b"), value("d", "4", 0))
	write(t, d, with(at(second, 4, 8), 4, 4), value("e", "5", 9))
	write(t, d, with(at(s.Target, 3, 9), 5, 6), flush(), value("a", "6", 0), sync, value("f", "7", 10), value("b", "8", 0))
	write(t, d, with(at(second, 6, 6), 3, 12), value("g", "9", 0)) // dead, on a sector of the region before
	want, e := Load(d, 4)
	if e != api.OK || want.Plans != 3 || len(want.Regions) != 4 || len(want.Pairs) == 0 {
		t.Fatalf("Load = %s, error %d", show(want), e)
	}
	others := 0
	for i := range d.Sectors() {
		b := sector(d, i)
		for k := range b {
			for _, change := range []byte{1 << (k % 8), 0xFF} {
				b[k] ^= change
				overwrite(t, d, i, b, api.OK)
				if got := expectSlow(t, "a changed byte", d, 4); !isSame(got, want) {
					others++
				}
				b[k] ^= change
			}
		}
		overwrite(t, d, i, b, api.OK)
	}
	expect(t, "no changed byte", d, 4, want)
	if others < 1000 {
		t.Errorf("only %d of the changes make a difference", others)
	}
}

// TestArbitraryContents has devices of up to a hundred sectors, with and without a superblock.
func TestArbitraryContents(t *testing.T) {
	random := rand.New(rand.NewPCG(3, 4))
	for sectors := 1; sectors <= 100; sectors++ {
		for _, contents := range [][]byte{
			make([]byte, 64*sectors),
			bytes.Repeat([]byte{0xFF}, 64*sectors),
			bytes.Repeat([]byte{1}, 64*sectors),
			bytes.Repeat([]byte{1, 2, 3, 4, 0xA1, 0xA2}, 64*sectors)[:64*sectors],
			noise(64*sectors, uint32(sectors)),
		} {
			d := flashdev.Load(contents)
			for _, now := range []int{-1, 0, 5, 1 << 39, 1<<39 + 1} {
				expectSlow(t, "arbitrary contents", d, now)
			}
			if sectors < 2 {
				continue
			}
			for range 3 {
				publish(t, d, randomSuper(random, 2))
				for _, now := range []int{-1, 0, 5, 1 << 39, 1<<39 + 1} {
					expectSlow(t, "arbitrary contents behind superblocks", d, now)
				}
			}
		}
	}
}

// TestForgedSectors has devices of up to a hundred sectors with frames whose checksums are right, whatever they contain.
func TestForgedSectors(t *testing.T) {
	random := rand.New(rand.NewPCG(5, 6))
	found, errors := 0, 0
	for range 4000 {
		d := randomDevice(t, random, 2)
		for range 1 + random.IntN(12) {
			i := random.IntN(d.Sectors())
			payload := sector(d, i)[1:60]
			kind, salt := int(sector(d, i)[0]), 0
			if kind < 1 || kind > 4 {
				kind = 1 + random.IntN(4)
			}
			if kind == api.FrameData {
				salt = 1 + random.IntN(14)
			}
			for range random.IntN(4) {
				payload[random.IntN(1+random.IntN(58))] = []byte{0, 1, 2, 3, 5, 0x80, 0xFF, byte(random.IntN(256))}[random.IntN(8)]
			}
			b, e := frame.Encode(kind, salt, i, payload)
			overwrite(t, d, i, b, e)
		}
		if s := expectSlow(t, "forged sectors", d, random.IntN(12)); s.Next > 0 {
			found += min(1, len(s.Regions))
		} else {
			errors++
		}
	}
	if found < 1000 || errors < 100 {
		t.Errorf("there are regions on %d devices, and errors for %d", found, errors)
	}
}

// left returns how many calls the power of d lasts for, up to 1000, and uses them up.
func left(d *flashdev.Device) int {
	n := 0
	for n < 1000 && d.Barrier() == api.OK {
		n++
	}
	return n
}

// TestLoadOnlyReads has clean and dirty devices, with power for some calls, and for none.
func TestLoadOnlyReads(t *testing.T) {
	random := rand.New(rand.NewPCG(7, 8))
	for range 300 {
		for _, fuse := range []int{-1, 0, 3} {
			d := randomDevice(t, random, 3)
			for range random.IntN(3) {
				d.Write(random.IntN(d.Sectors()), []byte("dirty"))
			}
			d.Fuse(fuse)
			image, lost, writes, dirty := d.Image(), d.Crash(nil, nil).Image(), d.Writes(), d.Dirty()
			for _, now := range []int{-1, 0, 5, 1 << 39, 1<<39 + 1} {
				expectSlow(t, "a random device", d, now)
			}
			if !bytes.Equal(d.Image(), image) || !bytes.Equal(d.Crash(nil, nil).Image(), lost) {
				t.Fatal("the device has other contents")
			}
			if d.Writes() != writes || d.Dirty() != dirty || d.Dead() {
				t.Fatalf("%d Writes, %d sectors are dirty, dead: %v", d.Writes(), d.Dirty(), d.Dead())
			}
			want := 1000
			if fuse >= 0 {
				want = fuse
			}
			if got := left(d); got != want {
				t.Fatalf("the power lasts for %d calls, want %d", got, want)
			}
		}
	}
}

// TestLoadAgain repeats calls, with crashes in between that lose nothing.
func TestLoadAgain(t *testing.T) {
	random := rand.New(rand.NewPCG(9, 10))
	for range 1000 {
		d := randomDevice(t, random, 3)
		d.Barrier()
		want, e := Load(d, 0)
		for range 3 {
			got, again := Load(d, 0)
			if again != e || !isSame(got, want) {
				t.Fatalf("the result changes: %s, error %d, want %s, error %d", show(got), again, show(want), e)
			}
			d = d.Crash(nil, nil)
		}
		for now := range want.Now + 1 {
			if e == api.OK {
				expect(t, "a now that is not greater than the one found", d, now, want)
			}
		}
	}
}

// TestDirtySectors has a superblock, a plan record and two regions that are not durable yet: Load finds them, until a crash loses them.
func TestDirtySectors(t *testing.T) {
	home, target := layout(3, 1, 4, 6), layout(4, 2, 8, 5)
	s := migrating(2, 0, target, home)
	d := device(t, end(target), s)
	write(t, d, at(home, 0, 5), value("a", "", 0))
	before := expectSlow(t, "before", d, 0)
	s.Gen, s.Tail = 5, 3
	b, e := superblock.Encode(s, 1)
	overwrite(t, d, 1, b, e)
	b, e = plan.Encode(api.Plan{Kind: api.PlanBegin, Migration: 8, Tail: 4, Target: target}, 38)
	overwrite(t, d, 38, b, e)
	r := at(target, 2, 6)
	raw(t, d, r, streamOf(t, r, value("b", "", 0)))
	put(t, d, at(home, 0, 7))
	dirty := State{Super: s, Regions: []api.Region{r, at(home, 0, 7)}, Tail: 4, Next: 8, Plans: 1, Pairs: []api.Pair{pair("b", 6, 0, 17, 0)}}
	expect(t, "dirty", d, 0, dirty)
	expect(t, "after a crash", d.Crash(nil, nil), 0, before)
	expect(t, "after a crash that keeps everything", d.Crash(slices.Repeat([]bool{true}, 5), nil), 0, dirty)
	expect(t, "still dirty", d, 0, dirty)
}

// wellFilled returns a device with regions of three layouts.
func wellFilled(t *testing.T) *flashdev.Device {
	t.Helper()
	home, second := layout(3, 1, 4, 6), layout(4, 2, 8, 5)
	s := returning(2, 3, 5, home, second)
	d := device(t, end(second), s)
	journal(t, d, 9, second, 2, 3)
	write(t, d, with(at(home, 0, 5), 2, 3), value("a", "1", 0), value("b", "2", 9))
	write(t, d, with(at(second, 2, 7), 3, 4), value("c", "3", 9))
	write(t, d, with(at(s.Target, 3, 8), 1, 5), value("d", "4", 0))
	return d
}

// spoil overwrites the lists of a state and their spare capacity.
func spoil(s State) {
	for i := range s.Super.Foreign[:cap(s.Super.Foreign)] {
		s.Super.Foreign[:cap(s.Super.Foreign)][i] = layout(99, 99, 99, 99)
	}
	for i := range s.Regions[:cap(s.Regions)] {
		s.Regions[:cap(s.Regions)][i] = at(layout(99, 99, 99, 99), 99, 99)
	}
	for i := range s.Pairs[:cap(s.Pairs)] {
		s.Pairs[:cap(s.Pairs)][i] = pair("spoilt", 99, 99, 99, 99)
	}
}

func TestResultsShareNoMemory(t *testing.T) {
	d := wellFilled(t)
	want, _ := slowLoad(d, 4)
	if len(want.Regions) != 3 || len(want.Pairs) != 4 || len(want.Super.Foreign) != 2 {
		t.Fatal("there is too little on the device:", show(want))
	}
	a, _ := Load(d, 4)
	b, _ := Load(d, 4)
	spoil(a)
	if !isSame(b, want) {
		t.Error("two results share memory")
	}
	expect(t, "a result is overwritten", d, 4, want)
	clear(b.Super.Foreign)
	if !slices.Equal(b.Regions, want.Regions) {
		t.Error("the regions share memory with the superblock")
	}
	spoil(b)
	expect(t, "both results are overwritten", d, 4, want)
}

// TestResultsStay has results that must not change with the device.
func TestResultsStay(t *testing.T) {
	d := wellFilled(t)
	want, _ := slowLoad(d, 4)
	got, _ := Load(d, 4)
	for i := range d.Sectors() {
		overwrite(t, d, i, noise(64, uint32(i)), api.OK)
	}
	if !isSame(got, want) {
		t.Errorf("the result changes with the device: %s", show(got))
	}
	expectError(t, "overwritten", d, 4, api.ErrForm)
}

// TestNothingIsKept reads several devices in turns: each result depends on the arguments alone.
func TestNothingIsKept(t *testing.T) {
	random := rand.New(rand.NewPCG(11, 12))
	devices := []*flashdev.Device{nil, kill(wellFilled(t)), flashdev.New(1), flashdev.New(200), wellFilled(t)}
	for range 6 {
		devices = append(devices, randomDevice(t, random, 3))
	}
	for range 5 {
		for _, d := range devices {
			for _, now := range []int{20, -1, 0, 9} {
				expectSlow(t, "in turns", d, now)
			}
		}
	}
}
