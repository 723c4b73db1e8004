package superpair

import (
	"bytes"
	"encoding/hex"
	"math"
	"slices"
	"testing"

	"flashcache/api"
	"flashcache/flashdev"
	"flashcache/frame"
	"flashcache/superblock"
)

// known has superblocks of each phase, with odd and even generations, and the bytes that another program made of them.
var known = []struct {
	s    api.Super
	want string
}{
	{stable(1, 0, 1, 0, layout(1, 1, 2, 4)), "0300000000010100000000000000000001000000000000000001010104000000000000000000000000000000000000000000000000000000000000000a281dd1"},
	{stable(258, 2, 5, 7, layout(3, 1, 4, 6)), "030000000102010000000200000000000500000000070000000301020600000000000000000000000000000000000000000000000000000000000000408f7245"},
	{stable(1099511627775, 4294967295, 281474976710655, 549755813888, layout(4294967295, 2, 2048, 16)), "03ffffffffff01ffffffffffffffffffff8000000000ffffffff020b1000000000000000000000000000000000000000000000000000000000000000ec3fd0c3"},
	{migrating(9, 2, 0, 0, layout(4, 2, 4, 6), layout(3, 1, 4, 6)), "030000000009020000000200000000000000000000000000000402020600000003010206010000000000000000000000000000000000000000000000702cd458"},
	{migrating(10, 3, 5, 7, layout(4, 2, 8, 7), layout(3, 1, 4, 6)), "03000000000a020000000300000000000500000000070000000402030700000003010206010000000000000000000000000000000000000000000000526d2564"},
	{returning(9, 2, 0, 0, layout(5, 1, 4, 6), layout(3, 1, 4, 6), layout(4, 2, 8, 7)), "030000000009030000000200000000000000000000000000000501020600000003010206020000000402030700000000000000000000000000000000325a0d18"},
	{returning(1099511627774, 1, 140737488355328, 549755813887, layout(2147483648, 2, 2, 4), layout(2147483647, 2, 2, 4), layout(65536, 1, 512, 9)), "03fffffffffe03000000018000000000007fffffffff800000000201047fffffff02010402000100000109090000000000000000000000000000000051032cc2"},
}

func layout(id, version, sectors, regions int) api.Layout {
	return api.Layout{ID: id, Version: version, RegionSectors: sectors, Regions: regions}
}

func stable(gen, migration, tail, now int, target api.Layout) api.Super {
	return api.Super{Gen: gen, Phase: api.PhaseStable, Migration: migration, Tail: tail, Now: now, Target: target}
}

func migrating(gen, migration, tail, now int, target, home api.Layout) api.Super {
	return api.Super{Gen: gen, Phase: api.PhaseMigrating, Migration: migration, Tail: tail, Now: now, Target: target, Home: home, Foreign: []api.Layout{home}}
}

func returning(gen, migration, tail, now int, target, home, second api.Layout) api.Super {
	return api.Super{Gen: gen, Phase: api.PhaseReturning, Migration: migration, Tail: tail, Now: now, Target: target, Home: home, Foreign: []api.Layout{home, second}}
}

// of returns a valid superblock with that generation; generations that follow each other have all phases.
func of(gen int) api.Super {
	home := layout(3, 1, 4, 6)
	switch gen / 2 % 3 {
	case 0:
		return stable(gen, 2, gen, 7, home)
	case 1:
		return migrating(gen, 3, gen, 8, layout(4, 2, 8, 7), home)
	}
	return returning(gen, 3, gen, 9, layout(5, 1, 4, 6), home, layout(4, 2, 8, 7))
}

// gens are generations at the ends of their range, and where a byte of their number overflows.
var gens = []int{1, 2, 3, 4, 254, 255, 256, 257, 65535, 65536, 1<<24 - 1, 1 << 24, 1<<31 - 1, 1 << 31, 1<<32 - 1, 1 << 32, 1<<32 + 1, 1<<39 + 1, 1<<40 - 3, 1<<40 - 2, 1<<40 - 1}

// bad returns superblocks that are not valid; some of them lack nothing but a generation.
func bad() []api.Super {
	all := []api.Super{{}, {Gen: 1}, {Gen: 2}}
	for _, gen := range []int{0, -1, -2, -3, math.MinInt, math.MinInt + 1, 1 << 40, 1<<40 + 1, 1<<40 + 2, math.MaxInt - 1, math.MaxInt} {
		s := of(1)
		s.Gen = gen
		all = append(all, s)
	}
	for gen := 1; gen <= 6; gen++ {
		for _, spoil := range []func(s *api.Super){
			func(s *api.Super) { s.Phase = 0 },
			func(s *api.Super) { s.Phase = 4 },
			func(s *api.Super) { s.Phase = s.Phase%3 + 1 },
			func(s *api.Super) { s.Migration = -1 },
			func(s *api.Super) { s.Tail = 1 << 48 },
			func(s *api.Super) { s.Now = 1<<39 + 1 },
			func(s *api.Super) { s.Target.RegionSectors = 3 },
			func(s *api.Super) { s.Foreign = append(s.Foreign, layout(9, 1, 2, 4)) },
		} {
			s := of(gen)
			spoil(&s)
			all = append(all, s)
		}
	}
	return all
}

// isSame reports whether a and b are equal, without superblock.Equal.
func isSame(a, b api.Super) bool {
	return a.Gen == b.Gen && a.Phase == b.Phase && a.Migration == b.Migration && a.Tail == b.Tail && a.Now == b.Now &&
		a.Target == b.Target && a.Home == b.Home && slices.Equal(a.Foreign, b.Foreign)
}

// bytesOf returns the frame of s for that sector, whether s belongs to it or not.
func bytesOf(t *testing.T, s api.Super, sector int) []byte {
	t.Helper()
	b, e := superblock.Encode(s, sector)
	if e != api.OK {
		t.Fatalf("no frame of %+v: error %d", s, e)
	}
	return b
}

// frameOf returns the frame of that payload, whatever it is.
func frameOf(t *testing.T, kind, salt, sector int, payload []byte) []byte {
	t.Helper()
	b, e := frame.Encode(kind, salt, sector, payload)
	if e != api.OK {
		t.Fatalf("no frame of %x: error %d", payload, e)
	}
	return b
}

// noise returns n bytes without a visible pattern, the same ones each time.
func noise(n int, seed uint32) []byte {
	b := make([]byte, n)
	for i := range b {
		seed = seed*1664525 + 1013904223
		b[i] = byte(seed >> 24)
	}
	return b
}

// device returns a device whose sectors are noise, but for the first ones, which are as given.
func device(sectors int, first ...[]byte) *flashdev.Device {
	image := noise(64*sectors, 1)
	for i, b := range first {
		clear(image[64*i : 64*i+64])
		copy(image[64*i:], b)
	}
	return flashdev.Load(image)
}

// dead returns a device with these first sectors, on which nothing works any more.
func dead(first ...[]byte) *flashdev.Device {
	d := device(80, first...)
	d.Fuse(0)
	d.Barrier()
	return d
}

// expectLoad reports an error unless Load returns s.
func expectLoad(t *testing.T, what string, d *flashdev.Device, s api.Super) {
	t.Helper()
	if got, ok := Load(d); !ok || !isSame(got, s) {
		t.Errorf("%s: Load = %+v, %v; want %+v", what, got, ok, s)
	}
}

// expectNone reports an error unless Load returns nothing.
func expectNone(t *testing.T, what string, d *flashdev.Device) {
	t.Helper()
	if got, ok := Load(d); ok || !isSame(got, api.Super{}) {
		t.Errorf("%s: Load = %+v, %v; want nothing", what, got, ok)
	}
}

// expectPublish reports an error unless Publish of s returns e.
func expectPublish(t *testing.T, what string, d *flashdev.Device, s api.Super, e api.Errno) {
	t.Helper()
	if got := Publish(d, s); got != e {
		t.Errorf("%s: Publish of the generation %d: error %d, want %d", what, s.Gen, got, e)
	}
}

// expectPublished reports an error unless Publish of s writes b to that sector, nothing else, and leaves nothing dirty.
func expectPublished(t *testing.T, d *flashdev.Device, s api.Super, sector int, b []byte) {
	t.Helper()
	want, writes := d.Image(), d.Writes()
	copy(want[64*sector:], b)
	expectPublish(t, "a device that works", d, s, api.OK)
	if !bytes.Equal(d.Image(), want) {
		t.Errorf("Publish of %+v does not write %x to the sector %d alone", s, b, sector)
	}
	if d.Dirty() != 0 || d.Writes() != writes+1 || d.Dead() {
		t.Errorf("Publish of the generation %d: %d sectors are dirty, %d Writes, dead: %v", s.Gen, d.Dirty(), d.Writes()-writes, d.Dead())
	}
	if !bytes.Equal(d.Crash(nil, nil).Image(), want) {
		t.Errorf("a crash after Publish of the generation %d loses something", s.Gen)
	}
}

func TestExampleOfTheChapter(t *testing.T) {
	d := flashdev.New(80)
	expectNone(t, "an empty device", d)
	expectPublish(t, "the first one", d, of(1), api.OK)
	expectPublish(t, "the second one", d, of(2), api.OK)
	expectLoad(t, "after both", d, of(2))
	if e := d.Write(0, []byte("something else")); e != api.OK {
		t.Fatal(e)
	}
	expectLoad(t, "after the sector 0 was overwritten", d, of(1))
}

// TestGenerationFour is the document's fourth example.
func TestGenerationFour(t *testing.T) {
	d := device(80)
	expectPublished(t, d, of(4), 0, bytesOf(t, of(4), 0))
}

func TestPublishOfKnownSuperblocks(t *testing.T) {
	for _, sectors := range []int{2, 3, 74, 300} {
		for _, x := range known {
			want, err := hex.DecodeString(x.want)
			if err != nil || len(want) != 64 {
				t.Fatalf("%+v: a sector of %d bytes, %v", x.s, len(want), err)
			}
			d := device(sectors)
			expectPublished(t, d, x.s, x.s.Gen%2, want)
			expectLoad(t, "a known superblock", d, x.s)
			expectPublished(t, d, x.s, x.s.Gen%2, want)
			expectLoad(t, "a known superblock, once more", d, x.s)
		}
	}
}

// TestPublishOfAllGenerations publishes superblocks over those of other generations, greater and lower ones, in the same sector and beside.
func TestPublishOfAllGenerations(t *testing.T) {
	for _, first := range gens {
		for _, second := range gens {
			d := device(76)
			expectPublished(t, d, of(first), first%2, bytesOf(t, of(first), first%2))
			expectPublished(t, d, of(second), second%2, bytesOf(t, of(second), second%2))
			want := second
			if first%2 != second%2 {
				want = max(first, second)
			}
			expectLoad(t, "after two generations", d, of(want))
		}
	}
}

func TestPublishOnALargeDevice(t *testing.T) {
	d := flashdev.New(api.MaxSectors)
	for gen := 1; gen <= 3; gen++ {
		expectPublish(t, "the largest device", d, of(gen), api.OK)
		expectLoad(t, "the largest device", d, of(gen))
	}
	if d.Writes() != 3 || d.Dirty() != 0 {
		t.Errorf("%d Writes, %d sectors are dirty", d.Writes(), d.Dirty())
	}
}

// TestPublishMakesEverythingDurable has sectors that were written before, without a Barrier.
func TestPublishMakesEverythingDurable(t *testing.T) {
	d := device(80)
	d.Write(0, []byte("zero"))
	d.Write(1, []byte("one"))
	d.Write(75, []byte("data"))
	expectPublished(t, d, of(7), 1, bytesOf(t, of(7), 1))
	expectPublished(t, d, of(8), 0, bytesOf(t, of(8), 0))
}

func TestPublishOfWhatIsNotValid(t *testing.T) {
	for _, s := range bad() {
		if superblock.Valid(s) {
			t.Fatalf("%+v is valid", s)
		}
		expectPublish(t, "nil", nil, s, api.ErrForm)
		expectPublish(t, "a zero device", new(flashdev.Device), s, api.ErrForm)
		for _, d := range []*flashdev.Device{dead(bytesOf(t, of(2), 0), bytesOf(t, of(1), 1)), device(1), device(2), device(80), device(80, bytesOf(t, of(2), 0), bytesOf(t, of(1), 1))} {
			isDead := d.Dead()
			d.Write(0, []byte("dirty"))
			image, writes, dirty := d.Image(), d.Writes(), d.Dirty()
			d.Fuse(0)
			expectPublish(t, "not valid", d, s, api.ErrForm)
			if !bytes.Equal(d.Image(), image) || d.Writes() != writes || d.Dirty() != dirty || d.Dead() != isDead {
				t.Errorf("Publish of %+v, which is not valid, has an effect", s)
			}
		}
	}
}

func TestPublishOnDeadDevices(t *testing.T) {
	for _, gen := range gens {
		expectPublish(t, "nil", nil, of(gen), api.ErrDown)
		d := dead(bytesOf(t, of(2), 0), bytesOf(t, of(1), 1))
		image := d.Image()
		expectPublish(t, "dead", d, of(gen), api.ErrDown)
		if !bytes.Equal(d.Image(), image) || d.Writes() != 0 || d.Dirty() != 0 {
			t.Errorf("Publish of the generation %d changes a dead device", gen)
		}
	}
}

// TestPublishOnOneSector has room for even generations alone. A Write that is refused is not followed by a Barrier.
func TestPublishOnOneSector(t *testing.T) {
	for _, gen := range gens {
		d := device(1)
		if gen%2 == 0 {
			expectPublished(t, d, of(gen), 0, bytesOf(t, of(gen), 0))
			expectNone(t, "one sector", d)
			continue
		}
		d.Write(0, []byte("dirty"))
		image := d.Image()
		d.Fuse(0)
		expectPublish(t, "one sector", d, of(gen), api.ErrRange)
		if !bytes.Equal(d.Image(), image) || d.Writes() != 1 || d.Dirty() != 1 || d.Dead() {
			t.Errorf("Publish of the generation %d, for which there is no sector, has an effect", gen)
		}
	}
	for _, gen := range []int{1, 2} {
		expectPublish(t, "a zero device", new(flashdev.Device), of(gen), api.ErrRange)
	}
	d := device(1)
	d.Fuse(0)
	d.Barrier()
	expectPublish(t, "one sector, dead", d, of(1), api.ErrDown)
}

// TestPublishWithFuses has no power for the Write, none for the Barrier, or enough for both.
func TestPublishWithFuses(t *testing.T) {
	for _, gen := range gens {
		for fuse := range 6 {
			d := device(80)
			old := d.Image()
			written := d.Image()
			copy(written[64*(gen%2):], bytesOf(t, of(gen), gen%2))
			d.Fuse(fuse)
			got := Publish(d, of(gen))
			want, image, writes, dirty := api.OK, written, 1, 0
			switch fuse {
			case 0:
				want, image, writes = api.ErrDown, old, 0
			case 1:
				want, dirty = api.ErrDown, 1
			}
			if got != want || !bytes.Equal(d.Image(), image) || d.Writes() != writes || d.Dirty() != dirty || d.Dead() != (want != api.OK) {
				t.Errorf("Publish of the generation %d with the fuse %d: error %d, %d Writes, %d sectors are dirty, dead: %v", gen, fuse, got, d.Writes(), d.Dirty(), d.Dead())
			}
			expectShortened(t, d, fuse-2)
		}
	}
}

// expectShortened reports an error unless the device has a fuse of that length left, or is dead if it is negative.
func expectShortened(t *testing.T, d *flashdev.Device, left int) {
	t.Helper()
	for range left {
		if d.Barrier() != api.OK {
			t.Errorf("the fuse is shorter than %d", left)
		}
	}
	if d.Barrier() != api.ErrDown {
		t.Errorf("the fuse is longer than %d", left)
	}
}

func TestLoadOfEmptyDevices(t *testing.T) {
	for _, sectors := range []int{1, 2, 3, 74, 1000} {
		expectNone(t, "zeros", flashdev.New(sectors))
		expectNone(t, "noise", device(sectors))
		expectNone(t, "ones", flashdev.Load(bytes.Repeat([]byte{255}, 64*sectors)))
	}
}

func TestLoadOfOneSuperblock(t *testing.T) {
	for _, gen := range gens {
		pair := [2][]byte{}
		pair[gen%2] = bytesOf(t, of(gen), gen%2)
		for _, other := range [][]byte{nil, noise(64, 3), bytes.Repeat([]byte{255}, 64)} {
			pair[1-gen%2] = other
			for _, sectors := range []int{2, 3, 80} {
				expectLoad(t, "one sector alone", device(sectors, pair[0], pair[1]), of(gen))
			}
		}
		// No other sector counts, also if a superblock is made for it.
		expectNone(t, "behind the pair", device(80, nil, nil, bytesOf(t, of(gen), 2), bytesOf(t, of(gen), 3), pair[0], pair[1]))
	}
}

func TestLoadOfBoth(t *testing.T) {
	for _, even := range gens {
		for _, odd := range gens {
			if even%2 == 0 && odd%2 == 1 {
				expectLoad(t, "both", device(80, bytesOf(t, of(even), 0), bytesOf(t, of(odd), 1)), of(max(even, odd)))
			}
		}
	}
}

// TestLoadAfterEitherOrder publishes the newer one last, and first.
func TestLoadAfterEitherOrder(t *testing.T) {
	for _, gen := range gens[:len(gens)-1] {
		for _, order := range [][]int{{gen, gen + 1}, {gen + 1, gen}, {gen, gen + 1, gen}, {gen + 1, gen, gen + 1}} {
			d := flashdev.New(80)
			for _, x := range order {
				expectPublish(t, "in an order", d, of(x), api.OK)
			}
			expectLoad(t, "in either order", d, of(gen+1))
		}
	}
}

// TestLoadOfTheOthersSector has superblocks in the sector of the other parity, and frames that are made for the other sector.
func TestLoadOfTheOthersSector(t *testing.T) {
	for _, gen := range gens {
		for _, made := range []int{0, 1} {
			for _, lies := range []int{0, 1} {
				if made == gen%2 && lies == gen%2 {
					continue
				}
				pair := [2][]byte{}
				pair[lies] = bytesOf(t, of(gen), made)
				expectNone(t, "a superblock in the other's sector", device(80, pair[0], pair[1]))
				old := 1 + lies // a generation of the sector where nothing lies yet
				pair[1-lies] = bytesOf(t, of(old), old%2)
				expectLoad(t, "beside a superblock in the other's sector", device(80, pair[0], pair[1]), of(old))
			}
		}
	}
	expectNone(t, "two of them", device(80, bytesOf(t, of(3), 0), bytesOf(t, of(2), 1)))
}

// TestLoadOfTwoInOneParity has a frame that decodes, with a greater generation, where it does not belong.
func TestLoadOfTwoInOneParity(t *testing.T) {
	expectLoad(t, "two even ones", device(80, bytesOf(t, of(4), 0), bytesOf(t, of(6), 1)), of(4))
	expectLoad(t, "two odd ones", device(80, bytesOf(t, of(7), 0), bytesOf(t, of(5), 1)), of(5))
	expectLoad(t, "the same one twice", device(80, bytesOf(t, of(4), 0), bytesOf(t, of(4), 1)), of(4))
	expectLoad(t, "the same one twice", device(80, bytesOf(t, of(5), 0), bytesOf(t, of(5), 1)), of(5))
}

// TestLoadOfChangedBytes changes each byte of each sector in each way: the other superblock remains, or nothing.
func TestLoadOfChangedBytes(t *testing.T) {
	for gen := 1; gen <= 6; gen++ {
		pair := [2][]byte{}
		pair[gen%2] = bytesOf(t, of(gen), gen%2)
		alone := device(2, pair[0], pair[1])
		pair[1-gen%2] = bytesOf(t, of(gen+1), 1-gen%2)
		both := device(2, pair[0], pair[1])
		for i := range 64 {
			for change := 1; change < 256; change++ {
				for sector, b := range pair {
					x := bytes.Clone(b)
					x[i] ^= byte(change)
					both.Write(sector, x)
					left := gen
					if sector == gen%2 {
						left = gen + 1
						alone.Write(sector, x)
						expectNone(t, "a changed byte", alone)
					}
					expectLoad(t, "a changed byte", both, of(left))
					both.Write(sector, b)
				}
			}
		}
		alone.Write(gen%2, pair[gen%2])
		expectLoad(t, "changed back", alone, of(gen))
		expectLoad(t, "changed back", both, of(gen+1))
	}
}

// TestLoadOfOtherFrames has frames of other kinds and salts, and ones whose payload is no superblock.
func TestLoadOfOtherFrames(t *testing.T) {
	for gen := 1; gen <= 6; gen++ {
		payload := bytesOf(t, of(gen), gen%2)[1:60]
		pair := [2][]byte{}
		for kind := 1; kind <= 4; kind++ {
			for _, salt := range []int{0, 1, 2, gen, api.MaxSeq} {
				pair[gen%2] = frameOf(t, kind, salt, gen%2, payload)
				if d := device(80, pair[0], pair[1]); kind == api.FrameSuper && salt == 0 {
					expectLoad(t, "a frame of a superblock", d, of(gen))
				} else {
					expectNone(t, "a frame of another kind or salt", d)
				}
			}
		}
		for _, x := range [][]byte{nil, payload[:10], noise(59, 5), bytes.Repeat([]byte{255}, 59), slices.Concat([]byte{0, 0, 0, 0, byte(gen)}, noise(54, 6)), slices.Concat(payload[:58], []byte{1})} {
			pair[gen%2] = frameOf(t, api.FrameSuper, 0, gen%2, x)
			expectNone(t, "a frame of no superblock", device(80, pair[0], pair[1]))
		}
	}
}

// TestLoadReadsDirtySectors has a superblock that was written without a Barrier.
func TestLoadReadsDirtySectors(t *testing.T) {
	d := device(80, nil, bytesOf(t, of(3), 1))
	d.Write(0, bytesOf(t, of(4), 0))
	expectLoad(t, "the newer one is dirty", d, of(4))
	expectLoad(t, "the newer one is lost", d.Crash(nil, nil), of(3))
	d.Write(0, nil)
	expectLoad(t, "the newer one is overwritten", d, of(3))
	d.Write(1, nil)
	expectNone(t, "both are overwritten", d)
	expectLoad(t, "the older one is not lost", d.Crash(nil, nil), of(3))
}

func TestLoadOfDevicesThatCannotBeRead(t *testing.T) {
	expectNone(t, "nil", nil)
	expectNone(t, "a zero device", new(flashdev.Device))
	for gen := 1; gen <= 6; gen++ {
		pair := [2][]byte{}
		pair[gen%2] = bytesOf(t, of(gen), gen%2)
		expectNone(t, "dead", dead(pair[0], pair[1]))
		pair[1-gen%2] = bytesOf(t, of(gen+1), 1-gen%2)
		expectNone(t, "dead, with both", dead(pair[0], pair[1]))
		expectNone(t, "one sector alone", device(1, pair[0]))
		expectLoad(t, "dead, and crashed", dead(pair[0], pair[1]).Crash(nil, nil), of(gen+1))
	}
}

// TestLoadOnlyReads has a device without power left, and dirty sectors.
func TestLoadOnlyReads(t *testing.T) {
	d := device(80, bytesOf(t, of(4), 0))
	d.Write(1, bytesOf(t, of(5), 1))
	d.Write(75, []byte("data"))
	image, lost := d.Image(), d.Crash(nil, nil).Image()
	d.Fuse(0)
	for range 3 {
		expectLoad(t, "without power left", d, of(5))
	}
	if !bytes.Equal(d.Image(), image) || !bytes.Equal(d.Crash(nil, nil).Image(), lost) || d.Dirty() != 2 || d.Writes() != 2 || d.Dead() {
		t.Error("Load changes the device")
	}
}

// TestCrashes crashes after a second Publish, with every fuse and every set of dirty sectors that survive: Load finds one of the two, and the new one after OK.
func TestCrashes(t *testing.T) {
	for _, gen := range gens[:len(gens)-1] {
		for fuse := range 4 {
			for set := range 16 {
				for _, before := range []bool{false, true} {
					d := flashdev.New(80)
					if before && gen > 1 {
						expectPublish(t, "the one before", d, of(gen-1), api.OK)
					}
					expectPublish(t, "the first one", d, of(gen), api.OK)
					d.Write(2, []byte("plan"))
					d.Write(74, []byte("data"))
					d.Write(79, []byte("data"))
					d.Fuse(fuse)
					e := Publish(d, of(gen+1))
					if (e == api.OK) != (fuse >= 2) {
						t.Errorf("Publish with the fuse %d: error %d", fuse, e)
					}
					keep := []bool{set&1 != 0, set&2 != 0, set&4 != 0, set&8 != 0}
					want := gen
					if e == api.OK || fuse == 1 && keep[0] { // of the dirty sectors, that of the superblock is the first one
						want = gen + 1
					}
					expectLoad(t, "after a crash", d.Crash(keep, nil), of(want))
				}
			}
		}
	}
}

// TestTornCrashes tears the new superblock: the one before is found, unless the bytes that are lost are those that were there.
func TestTornCrashes(t *testing.T) {
	for gen := 1; gen <= 8; gen++ {
		for n := 1; n < 64; n++ {
			d := flashdev.New(80)
			if gen > 1 {
				Publish(d, of(gen-1))
			}
			Publish(d, of(gen))
			d.Fuse(1)
			expectPublish(t, "without power", d, of(gen+1), api.ErrDown)
			after := d.Crash(nil, []api.Tear{{K: 0, N: n}})
			want := gen
			if bytes.Equal(after.Image(), d.Image()) {
				want = gen + 1
			}
			expectLoad(t, "after a tear", after, of(want))
		}
	}
}

// TestManyCrashes publishes generation after generation, and goes on with what each crash leaves.
func TestManyCrashes(t *testing.T) {
	chances := noise(3000, 11)
	d := flashdev.New(76)
	newest := 0
	for i := range 1000 {
		fuse, keep := int(chances[3*i]%4), chances[3*i+1]%2 == 1
		d.Fuse(fuse)
		e := Publish(d, of(newest+1))
		if (e == api.OK) != (fuse >= 2) {
			t.Fatalf("Publish with the fuse %d: error %d", fuse, e)
		}
		if e == api.OK || fuse == 1 && keep {
			newest++
		}
		d = d.Crash([]bool{keep}, nil)
		if newest == 0 {
			expectNone(t, "before the first one", d)
		} else {
			expectLoad(t, "after many crashes", d, of(newest))
		}
	}
	if newest < 500 {
		t.Errorf("only %d generations", newest)
	}
}

// TestPublishLeavesForeignAlone has foreign layouts with others before and behind them in the same memory, and changes them afterwards.
func TestPublishLeavesForeignAlone(t *testing.T) {
	for gen := 1; gen <= 6; gen++ {
		s := of(gen)
		whole := slices.Concat([]api.Layout{layout(11, 1, 2, 4)}, s.Foreign, []api.Layout{layout(12, 2, 2, 4), layout(13, 2, 2, 4)})
		old := slices.Clone(whole)
		s.Foreign = whole[1 : 1+len(s.Foreign)]
		d := device(80)
		expectPublish(t, "in other memory", d, s, api.OK)
		expectPublish(t, "in other memory, nil", nil, s, api.ErrDown)
		if !slices.Equal(whole, old) {
			t.Errorf("Publish changes %+v, or what surrounds its foreign layouts", s)
		}
		clear(whole)
		expectLoad(t, "after the argument has changed", d, of(gen))
	}
}

func TestResultsOfLoadShareNoMemory(t *testing.T) {
	for gen := 1; gen <= 6; gen++ {
		d := device(80)
		expectPublish(t, "to be loaded", d, of(gen), api.OK)
		image := d.Image()
		first, _ := Load(d)
		second, _ := Load(d)
		clear(second.Foreign[:cap(second.Foreign)])
		if !isSame(first, of(gen)) {
			t.Errorf("a result of Load shares memory with another one: %+v", first)
		}
		clear(first.Foreign[:cap(first.Foreign)])
		if !bytes.Equal(d.Image(), image) {
			t.Error("a result of Load shares memory with the device")
		}
		expectLoad(t, "after a result has changed", d, of(gen))
		third, _ := Load(d)
		d.Write(gen%2, nil)
		if !isSame(third, of(gen)) {
			t.Errorf("a result of Load changes with the device: %+v", third)
		}
	}
}

// TestCallsDependOnNothingElse has two devices, with calls on one between those on the other.
func TestCallsDependOnNothingElse(t *testing.T) {
	a, b := flashdev.New(80), flashdev.New(80)
	for gen := 1; gen <= 20; gen++ {
		expectPublish(t, "one device", a, of(gen), api.OK)
		if gen == 1 {
			expectNone(t, "the other device", b)
		} else {
			expectLoad(t, "the other device", b, of(gen+99))
		}
		expectPublish(t, "the other device", b, of(gen+100), api.OK)
		expectLoad(t, "one device", a, of(gen))
		Publish(nil, of(gen+1))
		Publish(a, api.Super{})
		Load(nil)
		expectLoad(t, "one device, once more", a, of(gen))
	}
}
