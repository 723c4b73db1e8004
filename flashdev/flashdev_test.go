package flashdev

import (
	"bytes"
	"math"
	"slices"
	"testing"

	"flashcache/api"
)

// noise returns n bytes without a visible pattern, none of them 0.
func noise(n, seed int) []byte {
	b := make([]byte, n)
	s := uint32(n + 31*seed)
	for i := range b {
		s = s*1664525 + 1013904223
		b[i] = byte(s>>24) | 1
	}
	return b
}

// padded returns b, followed by zero bytes up to a whole sector.
func padded(b []byte) []byte {
	return append(bytes.Clone(b), make([]byte, 64-len(b))...)
}

// expectSector reports an error unless the sector i of d has the contents want, padded.
func expectSector(t *testing.T, what string, d *Device, i int, want []byte) {
	t.Helper()
	got, e := d.Read(i)
	if e != api.OK || !bytes.Equal(got, padded(want)) {
		t.Errorf("%s: sector %d is %q with the error %d, want %q", what, i, got, e, want)
	}
}

// expectNew reports an error unless d is like a new device with the contents image.
func expectNew(t *testing.T, what string, d *Device, image []byte) {
	t.Helper()
	if d == nil {
		t.Errorf("%s: no device", what)
		return
	}
	if d.Sectors() != len(image)/64 || d.Dirty() != 0 || d.Writes() != 0 || d.Dead() {
		t.Errorf("%s: %d sectors, %d of them dirty, %d Writes, dead: %v", what, d.Sectors(), d.Dirty(), d.Writes(), d.Dead())
	}
	if !bytes.Equal(d.Image(), image) {
		t.Errorf("%s: the image is another one", what)
	}
}

// expectWrite reports an error unless the Write returns want.
func expectWrite(t *testing.T, what string, d *Device, i int, b []byte, want api.Errno) {
	t.Helper()
	if got := d.Write(i, b); got != want {
		t.Errorf("%s: Write(%d, %d bytes) = %d, want %d", what, i, len(b), got, want)
	}
}

// expectBarrier reports an error unless the Barrier returns want.
func expectBarrier(t *testing.T, what string, d *Device, want api.Errno) {
	t.Helper()
	if got := d.Barrier(); got != want {
		t.Errorf("%s: Barrier = %d, want %d", what, got, want)
	}
}

func TestNew(t *testing.T) {
	for _, n := range []int{1, 2, 3, 74, 1000, 1<<20 - 1, 1 << 20} {
		d := New(n)
		expectNew(t, "New", d, make([]byte, n*64))
		expectSector(t, "New", d, n-1, nil)
	}
	for _, n := range []int{math.MinInt, math.MinInt + 1, -1 << 58, -64, -1, 0, 1<<20 + 1, 1 << 26, 1 << 32, 1<<32 + 1, 1 << 58, 1<<58 + 1, math.MaxInt} {
		if New(n) != nil {
			t.Errorf("New(%d) is a device", n)
		}
	}
}

func TestNewHasNoFuse(t *testing.T) {
	for what, d := range map[string]*Device{"New": New(2), "Load": Load(make([]byte, 128))} {
		for range 1000 {
			expectWrite(t, what, d, 1, nil, api.OK)
			expectBarrier(t, what, d, api.OK)
		}
	}
}

func TestLoad(t *testing.T) {
	for _, n := range []int{1, 2, 3, 100, 1 << 20} {
		image := noise(n*64, 1)
		d := Load(image)
		expectNew(t, "Load", d, image)
		expectSector(t, "Load", d, n-1, image[len(image)-64:])
	}
	for _, n := range []int{0, 1, 63, 65, 100, 127, 129, 1<<26 - 1, 1<<26 + 1, 1<<26 + 63, 1<<26 + 64} {
		if Load(make([]byte, n)) != nil {
			t.Errorf("Load of %d bytes is a device", n)
		}
	}
	if Load(nil) != nil {
		t.Error("Load of nil is a device")
	}
}

func TestLoadCopies(t *testing.T) {
	whole := noise(64*6, 2)
	before := bytes.Clone(whole)
	d := Load(whole[64:192])
	clear(whole[64:128])
	expectSector(t, "after a change of the argument", d, 0, before[64:128])
	copy(whole, before)
	d.Write(0, []byte("x"))
	d.Write(1, nil)
	d.Barrier()
	if !bytes.Equal(whole, before) {
		t.Error("the device writes into the slice that it was loaded from, or into its spare capacity")
	}
}

func TestImage(t *testing.T) {
	d := New(4)
	want := make([]byte, 256)
	for k, i := range []int{2, 0, 3, 0} {
		b := noise(10+k, k)
		d.Write(i, b)
		copy(want[i*64:], padded(b))
		if !bytes.Equal(d.Image(), want) {
			t.Errorf("the image after %d Writes is another one", k+1)
		}
		if k == 1 {
			d.Barrier()
		}
	}
	d.Barrier()
	if !bytes.Equal(d.Image(), want) {
		t.Error("a Barrier changes the image")
	}
}

func TestResultsAreCopies(t *testing.T) {
	before := noise(64*3, 3)
	d := Load(before)
	image := d.Image()
	clear(image[:cap(image)])
	if !bytes.Equal(d.Image(), before) {
		t.Error("Image shares memory with the device")
	}
	first, _ := d.Read(1)
	second, _ := d.Read(1)
	clear(first[:cap(first)])
	if !bytes.Equal(d.Image(), before) || !bytes.Equal(second, before[64:128]) {
		t.Error("Read shares memory with the device, or with another result")
	}
	d.Write(1, []byte("new"))
	if !bytes.Equal(second, before[64:128]) {
		t.Error("a Write changes an earlier result")
	}
}

func TestReadOutOfRange(t *testing.T) {
	d := Load(noise(64*5, 4))
	for _, i := range []int{math.MinInt, -1 << 58, -5, -1, 5, 6, 1 << 20, 1 << 32, 1 << 58, 1<<58 + 1, math.MaxInt} {
		if b, e := d.Read(i); e != api.ErrRange || b != nil {
			t.Errorf("Read(%d) = %v, %d", i, b, e)
		}
	}
	for i := range 5 {
		expectSector(t, "Read", d, i, noise(64*5, 4)[i*64:i*64+64])
	}
}

func TestWriteOfEveryLength(t *testing.T) {
	for n := range 65 {
		before := noise(64*3, 5)
		d := Load(before)
		b := noise(n, 6)
		expectWrite(t, "a Write", d, 1, b, api.OK)
		expectSector(t, "after a Write", d, 1, b)
		expectSector(t, "the sector before", d, 0, before[:64])
		expectSector(t, "the sector behind", d, 2, before[128:])
		if d.Dirty() != 1 || d.Writes() != 1 {
			t.Errorf("%d bytes: %d dirty sectors, %d Writes", n, d.Dirty(), d.Writes())
		}
	}
	d := Load(noise(64, 5))
	expectWrite(t, "a Write of nil", d, 0, nil, api.OK)
	expectSector(t, "after a Write of nil", d, 0, nil)
}

func TestWriteErrors(t *testing.T) {
	before := noise(64*4, 7)
	d := Load(before)
	for _, x := range []struct {
		i, n int
		want api.Errno
	}{
		{-1, 0, api.ErrRange}, {-1, 65, api.ErrRange}, {4, 1, api.ErrRange}, {4, 64, api.ErrRange}, {4, 1000, api.ErrRange},
		{math.MinInt, 65, api.ErrRange}, {math.MaxInt, 0, api.ErrRange}, {1 << 58, 0, api.ErrRange}, {1<<58 + 1, 1, api.ErrRange}, {1 << 32, 1, api.ErrRange},
		{0, 65, api.ErrLength}, {3, 65, api.ErrLength}, {1, 128, api.ErrLength}, {2, 100000, api.ErrLength},
	} {
		expectWrite(t, "a Write", d, x.i, noise(x.n, 8), x.want)
	}
	expectNew(t, "after Writes that fail", d, before)
	expectWrite(t, "the last sector", d, 3, []byte("x"), api.OK)
}

func TestWriteNeitherChangesNorKeepsTheArgument(t *testing.T) {
	whole := noise(200, 9)
	before := bytes.Clone(whole)
	d := New(2)
	d.Write(0, whole[10:30])
	d.Write(1, whole[30:94])
	d.Write(0, whole[30:40])
	if !bytes.Equal(whole, before) {
		t.Error("Write changes the slice, or what surrounds it")
	}
	clear(whole)
	expectSector(t, "after a change of the argument", d, 0, before[30:40])
	expectSector(t, "after a change of the argument", d, 1, before[30:94])
}

func TestDirty(t *testing.T) {
	d := New(5)
	for k, x := range []struct{ i, dirty int }{{3, 1}, {3, 1}, {0, 2}, {4, 3}, {3, 3}, {0, 3}} {
		d.Write(x.i, []byte{byte(k)})
		if d.Dirty() != x.dirty || d.Writes() != k+1 {
			t.Errorf("after %d Writes: %d dirty sectors, %d Writes", k+1, d.Dirty(), d.Writes())
		}
	}
	expectBarrier(t, "a Barrier", d, api.OK)
	if d.Dirty() != 0 || d.Writes() != 6 {
		t.Errorf("after the Barrier: %d dirty sectors, %d Writes", d.Dirty(), d.Writes())
	}
	// A sector is dirty even if the Write does not change it.
	d.Write(1, nil)
	d.Write(3, []byte{4})
	if d.Dirty() != 2 || d.Writes() != 8 {
		t.Errorf("after Writes of the same bytes: %d dirty sectors, %d Writes", d.Dirty(), d.Writes())
	}
	for range 3 {
		expectBarrier(t, "one more Barrier", d, api.OK)
	}
	if d.Dirty() != 0 {
		t.Error("sectors are dirty after a Barrier")
	}
}

func TestFuse(t *testing.T) {
	for n := range 7 {
		for barriers := range 1 << (n + 1) {
			d := New(4)
			d.Write(3, []byte("old"))
			d.Barrier()
			d.Fuse(n)
			writes, dirty := 1, map[int]bool{}
			for k := range n {
				if barriers>>k&1 == 1 {
					expectBarrier(t, "before the end", d, api.OK)
					clear(dirty)
				} else {
					expectWrite(t, "before the end", d, k%4, []byte{byte(k)}, api.OK)
					writes++
					dirty[k%4] = true
				}
			}
			if d.Dead() {
				t.Errorf("a fuse of the length %d: the device is dead too early", n)
			}
			image := d.Image()
			if barriers>>n&1 == 1 {
				expectBarrier(t, "at the end", d, api.ErrDown)
			} else {
				expectWrite(t, "at the end", d, 2, []byte("late"), api.ErrDown)
			}
			if !d.Dead() || d.Dirty() != len(dirty) || d.Writes() != writes || !bytes.Equal(d.Image(), image) {
				t.Errorf("a fuse of the length %d: dead: %v, %d dirty sectors, %d Writes", n, d.Dead(), d.Dirty(), d.Writes())
			}
		}
	}
}

func TestCallsWithErrorsDoNotShortenTheFuse(t *testing.T) {
	d := New(2)
	d.Fuse(1)
	for range 5 {
		expectWrite(t, "with a fuse", d, 2, nil, api.ErrRange)
		expectWrite(t, "with a fuse", d, -1, make([]byte, 65), api.ErrRange)
		expectWrite(t, "with a fuse", d, 0, make([]byte, 65), api.ErrLength)
		d.Read(0)
		d.Read(2)
		d.Image()
		d.Crash(nil, nil)
	}
	expectWrite(t, "with a fuse", d, 0, []byte("x"), api.OK)
	// A burnt fuse kills the device only in a call without other errors.
	expectWrite(t, "with a burnt fuse", d, 2, nil, api.ErrRange)
	expectWrite(t, "with a burnt fuse", d, 0, make([]byte, 65), api.ErrLength)
	expectSector(t, "with a burnt fuse", d, 0, []byte("x"))
	if d.Dead() {
		t.Error("the device is dead before the fuse was needed")
	}
	expectWrite(t, "with a burnt fuse", d, 0, nil, api.ErrDown)
	if !d.Dead() {
		t.Error("the device is not dead")
	}
}

func TestFuseIsReplaced(t *testing.T) {
	for _, x := range []struct {
		fuses []int
		last  int // calls that succeed, or -1 for any number
	}{
		{[]int{5, 2}, 2}, {[]int{0, 2}, 2}, {[]int{2, 0}, 0}, {[]int{3, 3}, 3}, {[]int{-1, 1}, 1}, {[]int{math.MinInt, 0}, 0},
		{[]int{0, -1}, -1}, {[]int{1, math.MinInt}, -1}, {[]int{-7}, -1}, {[]int{math.MaxInt}, -1}, {[]int{0, math.MaxInt}, -1}, {[]int{1 << 32}, -1},
	} {
		d := New(1)
		for _, n := range x.fuses {
			d.Fuse(n)
		}
		for k := range 50 {
			want := api.OK
			if x.last >= 0 && k >= x.last {
				want = api.ErrDown
			}
			expectBarrier(t, "after the last Fuse", d, want)
		}
	}
}

func TestFuseIsReplacedOnTheWay(t *testing.T) {
	d := New(1)
	d.Fuse(2)
	expectBarrier(t, "the first fuse", d, api.OK)
	expectBarrier(t, "the first fuse", d, api.OK)
	d.Fuse(1)
	expectBarrier(t, "the second fuse", d, api.OK)
	d.Fuse(-1)
	for range 10 {
		expectBarrier(t, "no fuse", d, api.OK)
	}
	d.Fuse(0)
	expectBarrier(t, "the last fuse", d, api.ErrDown)
}

func TestDeadDevice(t *testing.T) {
	before := noise(64*3, 10)
	d := Load(before)
	d.Write(1, []byte("dirty"))
	d.Fuse(0)
	expectBarrier(t, "the last call", d, api.ErrDown)
	for _, n := range []int{5, -1, 0, math.MaxInt} {
		d.Fuse(n)
		for _, i := range []int{-1, 0, 1, 3, math.MaxInt} {
			if b, e := d.Read(i); e != api.ErrDown || b != nil {
				t.Errorf("Read(%d) = %v, %d", i, b, e)
			}
			expectWrite(t, "dead", d, i, []byte("x"), api.ErrDown)
			expectWrite(t, "dead", d, i, make([]byte, 65), api.ErrDown)
		}
		expectBarrier(t, "dead", d, api.ErrDown)
		if !d.Dead() {
			t.Error("the device is not dead any more")
		}
	}
	copy(before[64:], padded([]byte("dirty")))
	if d.Sectors() != 3 || d.Dirty() != 1 || d.Writes() != 1 || !bytes.Equal(d.Image(), before) {
		t.Errorf("%d sectors, %d dirty, %d Writes, or another image", d.Sectors(), d.Dirty(), d.Writes())
	}
}

func TestCrashOfADeadDevice(t *testing.T) {
	d := New(3)
	d.Write(1, []byte("aa"))
	d.Barrier()
	d.Write(1, []byte("bb"))
	d.Fuse(0)
	d.Write(2, []byte("cc"))
	for range 2 {
		c := d.Crash([]bool{true, true}, nil)
		expectNew(t, "kept", c, slices.Concat(padded(nil), padded([]byte("bb")), padded(nil)))
		expectNew(t, "lost", d.Crash(nil, nil), slices.Concat(padded(nil), padded([]byte("aa")), padded(nil)))
		for range 5 {
			expectWrite(t, "after the crash", c, 2, []byte("x"), api.OK)
			expectBarrier(t, "after the crash", c, api.OK)
		}
		if !d.Dead() {
			t.Error("d is not dead any more")
		}
	}
}

func TestCrashRemovesTheFuse(t *testing.T) {
	d := New(1)
	d.Fuse(1)
	c := d.Crash(nil, nil)
	for range 5 {
		expectBarrier(t, "after the crash", c, api.OK)
	}
	expectBarrier(t, "the device itself", d, api.OK)
	expectBarrier(t, "the device itself", d, api.ErrDown)
}

func TestCrashOfTheChapter(t *testing.T) {
	d := New(2)
	d.Write(1, []byte("aa"))
	d.Barrier()
	d.Write(1, []byte("bb"))
	expectSector(t, "a tear", d.Crash(nil, []api.Tear{{K: 0, N: 1}}), 1, []byte("ba"))
}

// crashed returns a device with the dirty sectors 1, 3 and 4 of 6, its image before the last Writes, and that after them.
func crashed() (d *Device, old, now []byte) {
	old = noise(64*6, 11)
	d = Load(old)
	now = bytes.Clone(old)
	for _, i := range []int{4, 1, 3, 1} {
		d.Write(i, noise(64, i)) // the first contents of sector 1 are neither old nor new
		if i == 1 {
			d.Write(i, noise(50, 12))
			copy(now[i*64:], padded(noise(50, 12)))
		} else {
			copy(now[i*64:], noise(64, i))
		}
	}
	return d, old, now
}

func TestCrash(t *testing.T) {
	dirty := []int{1, 3, 4}
	for _, x := range []struct {
		keep  []bool
		tears []api.Tear
		want  [3]int // how many of the first bytes of each dirty sector are new
	}{
		{nil, nil, [3]int{}},
		{[]bool{}, []api.Tear{}, [3]int{}},
		{[]bool{true}, nil, [3]int{64, 0, 0}},
		{[]bool{false, true}, nil, [3]int{0, 64, 0}},
		{[]bool{false, false, true}, nil, [3]int{0, 0, 64}},
		{[]bool{true, true, true}, nil, [3]int{64, 64, 64}},
		{[]bool{true, false, true, true, true, true, true, true}, nil, [3]int{64, 0, 64}},
		{[]bool{false, false, false, true, true}, nil, [3]int{}},
		{nil, []api.Tear{{K: 0, N: 1}, {K: 1, N: 32}, {K: 2, N: 63}}, [3]int{1, 32, 63}},
		{nil, []api.Tear{{K: 2, N: 63}, {K: 0, N: 1}}, [3]int{1, 0, 63}},
		{[]bool{true, true, true}, []api.Tear{{K: 1, N: 5}}, [3]int{64, 5, 64}},
		{[]bool{true}, []api.Tear{{K: 1, N: 5}}, [3]int{64, 5, 0}},
		{nil, []api.Tear{{K: 1, N: 7}, {K: 1, N: 3}}, [3]int{0, 7, 0}},
		{nil, []api.Tear{{K: 1, N: 3}, {K: 0, N: 9}, {K: 1, N: 7}, {K: 1, N: 63}, {K: 0, N: 1}}, [3]int{9, 3, 0}},
		{nil, []api.Tear{{K: 0, N: 0}, {K: 1, N: 64}, {K: 2, N: -1}}, [3]int{}},
		{[]bool{true, true, true}, []api.Tear{{K: 0, N: 0}, {K: 1, N: 64}, {K: 2, N: -1}}, [3]int{64, 64, 64}},
		{nil, []api.Tear{{K: 0, N: 65}, {K: 1, N: math.MaxInt}, {K: 2, N: math.MinInt}}, [3]int{}},
		{[]bool{true, false, true}, []api.Tear{{K: 0, N: 0}, {K: 0, N: 64}, {K: 0, N: 4}, {K: 0, N: 5}, {K: 2, N: 100}, {K: 2, N: 6}}, [3]int{4, 0, 6}},
		{nil, []api.Tear{{K: 1<<32 + 1, N: 8}, {K: 1, N: 1<<32 + 8}, {K: 1, N: 256 + 8}}, [3]int{}},
		{nil, []api.Tear{{K: -1, N: 8}, {K: 3, N: 8}, {K: 4, N: 8}, {K: math.MinInt, N: 8}, {K: math.MaxInt, N: 8}}, [3]int{}},
		{[]bool{false, true, false, true}, []api.Tear{{K: 3, N: 8}, {K: 2, N: 8}, {K: 3, N: 9}}, [3]int{0, 64, 8}},
	} {
		d, old, now := crashed()
		want := bytes.Clone(old)
		for k, i := range dirty {
			copy(want[i*64:], now[i*64:i*64+x.want[k]])
		}
		keep, tears := slices.Clone(x.keep), slices.Clone(x.tears)
		c := d.Crash(keep, tears)
		expectNew(t, "the new device", c, want)
		if !slices.Equal(keep, x.keep) || !slices.Equal(tears, x.tears) {
			t.Errorf("Crash changes its arguments: %v, %v", keep, tears)
		}
		if !bytes.Equal(d.Image(), now) || d.Dirty() != 3 || d.Writes() != 6 || d.Dead() {
			t.Errorf("keep %v, tears %v: d has changed", x.keep, x.tears)
		}
		expectNew(t, "Crash once more", d.Crash(keep, tears), want)
		expectNew(t, "a crash after the crash", c.Crash([]bool{true, true}, []api.Tear{{K: 0, N: 1}}), want)
	}
}

func TestCrashAtEveryByte(t *testing.T) {
	for n := 1; n < 64; n++ {
		d, old, now := crashed()
		c := d.Crash([]bool{true, true, true}, []api.Tear{{K: 1, N: n}})
		want := bytes.Clone(now)
		copy(want[3*64+n:4*64], old[3*64+n:4*64])
		expectNew(t, "a tear", c, want)
	}
}

func TestCrashKeepsItsArgumentsApart(t *testing.T) {
	keep := []bool{false, true, true}
	tears := []api.Tear{{K: 0, N: 2}, {K: 1, N: 3}}
	d, old, _ := crashed()
	c := d.Crash(keep[:1], tears[:0])
	expectNew(t, "the spare capacity", c, old)
	if !slices.Equal(keep, []bool{false, true, true}) || !slices.Equal(tears, []api.Tear{{K: 0, N: 2}, {K: 1, N: 3}}) {
		t.Error("Crash changes the spare capacity")
	}
}

func TestCrashSharesNothing(t *testing.T) {
	d, old, now := crashed()
	c := d.Crash([]bool{true}, nil)
	image := c.Image()
	for i := range 6 {
		d.Write(i, []byte("later"))
	}
	d.Barrier()
	if !bytes.Equal(c.Image(), image) {
		t.Error("a Write of the old device changes the new one")
	}
	d, _, _ = crashed()
	c = d.Crash(nil, nil)
	for i := range 6 {
		c.Write(i, []byte("later"))
	}
	c.Fuse(0)
	c.Barrier()
	if !bytes.Equal(d.Image(), now) || d.Dirty() != 3 || d.Dead() {
		t.Error("a Write of the new device changes the old one")
	}
	expectNew(t, "a later crash", d.Crash(nil, nil), old)
	expectNew(t, "a crash of the new device", c.Crash(nil, nil), old)
}

func TestOldContentsAreThoseAtTheLastBarrier(t *testing.T) {
	d := New(1)
	expect := func(old, now string) {
		t.Helper()
		expectSector(t, "lost", d.Crash(nil, nil), 0, []byte(old))
		expectSector(t, "kept", d.Crash([]bool{true}, nil), 0, []byte(now))
	}
	d.Write(0, []byte("one"))
	d.Write(0, []byte("two"))
	expect("", "two")
	d.Barrier()
	expect("two", "two")
	d.Write(0, []byte("three"))
	d.Write(0, []byte("4"))
	expect("two", "4")
	d.Barrier()
	d.Barrier()
	expect("4", "4")
	d.Write(0, []byte("5"))
	expect("4", "5")
	d.Fuse(0)
	d.Barrier()
	expect("4", "5")
}

// slowDevice keeps all old contents, and a list of the dirty sectors.
type slowDevice struct {
	now, old [][]byte
	dirty    []bool
	writes   int
	fuse     int
	dead     bool
}

func (s *slowDevice) call() bool {
	if s.fuse == 0 {
		s.dead = true
		return false
	}
	s.fuse--
	return true
}

func (s *slowDevice) write(i int, b []byte) api.Errno {
	switch {
	case s.dead:
		return api.ErrDown
	case i < 0 || i >= len(s.now):
		return api.ErrRange
	case len(b) > 64:
		return api.ErrLength
	case !s.call():
		return api.ErrDown
	}
	s.now[i], s.dirty[i] = padded(b), true
	s.writes++
	return api.OK
}

func (s *slowDevice) barrier() api.Errno {
	if s.dead || !s.call() {
		return api.ErrDown
	}
	copy(s.old, s.now)
	clear(s.dirty)
	return api.OK
}

func (s *slowDevice) crash(keep []bool, tears []api.Tear) [][]byte {
	var out [][]byte
	k := 0
	for i := range s.now {
		sector := s.old[i]
		if s.dirty[i] {
			if k < len(keep) && keep[k] {
				sector = s.now[i]
			}
			for _, x := range slices.Backward(tears) {
				if x.K == k && x.N > 0 && x.N < 64 {
					sector = slices.Concat(s.now[i][:x.N], s.old[i][x.N:])
				}
			}
			k++
		}
		out = append(out, sector)
	}
	return out
}

func TestLikeASlowDevice(t *testing.T) {
	seed := uint32(1)
	next := func(n int) int {
		seed = seed*1664525 + 1013904223
		return int(seed >> 8 % uint32(n))
	}
	for range 300 {
		sectors := 1 + next(12)
		s := &slowDevice{dirty: make([]bool, sectors), fuse: 20 + next(80)}
		for range sectors {
			s.now = append(s.now, make([]byte, 64))
		}
		s.old = slices.Clone(s.now)
		d := New(sectors)
		d.Fuse(s.fuse)
		for range 100 {
			if next(6) == 0 {
				expectBarrier(t, "a Barrier", d, s.barrier())
			} else {
				i, b := next(sectors+2)-1, noise(next(67), next(1000))
				expectWrite(t, "a Write", d, i, b, s.write(i, b))
			}
			var keep []bool
			var tears []api.Tear
			for range next(sectors + 3) {
				keep = append(keep, next(2) == 0)
				tears = append(tears, api.Tear{K: next(sectors+2) - 1, N: next(70) - 2})
			}
			if d.Writes() != s.writes || d.Dead() != s.dead || !bytes.Equal(d.Image(), slices.Concat(s.now...)) {
				t.Fatal("the devices differ")
			}
			expectNew(t, "the crash", d.Crash(keep, tears), slices.Concat(s.crash(keep, tears)...))
		}
	}
}

func TestManyDirtySectors(t *testing.T) {
	d := New(1 << 20)
	keep := make([]bool, 1<<20)
	var tears []api.Tear
	for i := 1<<20 - 1; i >= 0; i-- {
		d.Write(i, []byte{1, byte(i)})
		keep[i] = i%3 == 0
		if i%3 == 1 {
			tears = append(tears, api.Tear{K: i, N: 1})
		}
	}
	if d.Dirty() != 1<<20 || d.Writes() != 1<<20 {
		t.Errorf("%d dirty sectors, %d Writes", d.Dirty(), d.Writes())
	}
	c := d.Crash(keep, tears)
	for _, i := range []int{0, 1, 2, 3, 500, 501, 502, 1<<20 - 1} {
		expectSector(t, "many", c, i, [][]byte{{1, byte(i)}, {1}, {}}[i%3])
	}
	for range 1000 {
		expectBarrier(t, "many", d, api.OK)
		d.Write(0, nil)
	}
}

func TestNilDevice(t *testing.T) {
	var d *Device
	for _, i := range []int{math.MinInt, -1, 0, 1, math.MaxInt} {
		d.Fuse(i)
		if b, e := d.Read(i); e != api.ErrDown || b != nil {
			t.Errorf("Read(%d) = %v, %d", i, b, e)
		}
		expectWrite(t, "nil", d, i, nil, api.ErrDown)
		expectWrite(t, "nil", d, i, make([]byte, 65), api.ErrDown)
		expectBarrier(t, "nil", d, api.ErrDown)
	}
	if !d.Dead() || d.Sectors() != 0 || d.Dirty() != 0 || d.Writes() != 0 || d.Image() != nil {
		t.Error("a nil device is alive, or has sectors")
	}
	if d.Crash(nil, nil) != nil || d.Crash([]bool{true}, []api.Tear{{K: 0, N: 1}}) != nil {
		t.Error("a nil device becomes another one")
	}
}

func TestZeroDevice(t *testing.T) {
	d := new(Device)
	if _, e := d.Read(0); e != api.ErrRange {
		t.Errorf("Read = %d", e)
	}
	expectWrite(t, "zero", d, 0, nil, api.ErrRange)
	expectBarrier(t, "zero", d, api.OK)
	if c := d.Crash([]bool{true}, []api.Tear{{K: 0, N: 1}}); c == nil || c.Sectors() != 0 || len(c.Image()) != 0 {
		t.Error("a device without sectors gets some in a crash")
	}
}
