package sketch

import (
	"fmt"
	"math"
	"math/rand/v2"
	"slices"
	"testing"

	"flashcache/keyhash"
)

// indices are the indices of the counters of a hash, one in each row.
type indices [4]int

// hash returns the hash below 2^24 that has these indices.
func (x indices) hash() uint64 {
	h := uint64(0)
	for i := range x {
		h = h*64 + uint64(x[3-i])
	}
	return h
}

// indicesOf takes the indices of h by division.
func indicesOf(h uint64) indices {
	var x indices
	for row := range x {
		x[row] = int(h % 64)
		h /= 64
	}
	return x
}

// plain is a table of counters that follows the words of the chapter step by step.
type plain struct {
	counters [4][64]int
	touches  int
}

func (p *plain) touch(h uint64) {
	for row, i := range indicesOf(h) {
		if p.counters[row][i] < 15 {
			p.counters[row][i]++
		}
	}
	p.touches++
	if p.touches != 640 {
		return
	}
	for row := range p.counters {
		for i, n := range p.counters[row] {
			p.counters[row][i] = int(math.Floor(float64(n) / 2))
		}
	}
	p.touches = 320
}

func (p *plain) estimate(h uint64) int {
	x := indicesOf(h)
	return min(p.counters[0][x[0]], p.counters[1][x[1]], p.counters[2][x[2]], p.counters[3][x[3]])
}

// probes returns, for every counter, a hash with it whose other counters are the greatest ones of their rows, so that it is the least one if any hash can show it.
func (p *plain) probes() []uint64 {
	var greatest indices
	for row := range p.counters {
		greatest[row] = slices.Index(p.counters[row][:], slices.Max(p.counters[row][:]))
	}
	all := make([]uint64, 0, 4*64)
	for row := range greatest {
		for i := range 64 {
			x := greatest
			x[row] = i
			all = append(all, x.hash())
		}
	}
	return all
}

// twin is a sketch and, beside it, the plain table that it should be.
type twin struct {
	t    *testing.T
	s    *Sketch
	p    plain
	seen []uint64 // hashes whose estimates are asked for after each call
}

// newTwin returns a twin with a new sketch, which shall also be asked for the estimates of seen.
func newTwin(t *testing.T, seen ...uint64) *twin {
	t.Helper()
	x := &twin{t: t, s: New(), seen: seen}
	x.look("New")
	return x
}

func (x *twin) touch(h uint64) {
	x.t.Helper()
	x.s.Touch(h)
	x.p.touch(h)
	x.look("Touch")
}

func (x *twin) touchTimes(h uint64, n int) {
	x.t.Helper()
	for range n {
		x.touch(h)
	}
}

// look checks everything that the sketch tells of seen and of all counters.
func (x *twin) look(what string) {
	x.t.Helper()
	for _, hashes := range [][]uint64{x.seen, x.p.probes()} {
		for _, h := range hashes {
			x.compare(what, h)
		}
	}
	if got := x.s.Touches(); got != x.p.touches {
		x.t.Fatalf("after %s: Touches = %d, want %d", what, got, x.p.touches)
	}
}

// want checks one estimate.
func (x *twin) want(what string, h uint64, want int) {
	x.t.Helper()
	if got := x.s.Estimate(h); got != want {
		x.t.Fatalf("after %s, %d touches: Estimate(%#x) = %d, want %d", what, x.p.touches, h, got, want)
	}
}

// lookAtAll checks the estimates of all hashes below 2^24, that is, of all sets of four counters.
func (x *twin) lookAtAll(what string) {
	x.t.Helper()
	x.look(what)
	for h := range uint64(1 << 24) {
		x.compare(what, h)
	}
}

// compare checks one estimate against the plain table.
func (x *twin) compare(what string, h uint64) {
	if want := x.p.estimate(h); x.s.Estimate(h) != want {
		x.t.Helper() // only here, because it is slow
		x.want(what, h, want)
	}
}

// filler is a hash whose counters no other one of a test has, as long as these have no index 63.
var filler = indices{63, 63, 63, 63}.hash()

// fill touches the filler until the touches are n.
func (x *twin) fill(n int) {
	x.t.Helper()
	for x.p.touches < n {
		x.touch(filler)
	}
}

// same returns the hash whose counters are all at one index.
func same(i int) uint64 {
	return indices{i, i, i, i}.hash()
}

// kinds returns hashes of all kinds: both ends, single bits, both ends of each row, and those of keys.
func kinds() []uint64 {
	all := []uint64{0, math.MaxUint64, math.MaxInt64, 1<<24 - 1, 1 << 24, 1<<24 + 1, math.MaxUint64 - 1<<24 + 1, 0xAAAAAAAAAAAAAAAA, 0x5555555555555555, 0x0123456789ABCDEF}
	for i := range 64 {
		all = append(all, 1<<i, ^uint64(1<<i))
	}
	for ends := range 16 {
		var x indices
		for row := range x {
			x[row] = 63 * (ends >> row & 1)
		}
		all = append(all, x.hash(), x.hash()|1<<63)
	}
	for i := range 50 {
		all = append(all, keyhash.Hash(fmt.Appendf(nil, "key%d", i)))
	}
	return all
}

func TestNewSketch(t *testing.T) {
	x := newTwin(t, kinds()...)
	x.lookAtAll("New")
	if New() == x.s {
		t.Error("New returns the same sketch again")
	}
}

// TestTheZeroSketch has a sketch that New has not made: its counters and touches are 0, too.
func TestTheZeroSketch(t *testing.T) {
	x := &twin{t: t, s: &Sketch{}, seen: kinds()}
	x.look("nothing")
	for i := range 700 {
		x.touch(uint64(i % 40))
	}
}

func TestANilSketch(t *testing.T) {
	var s *Sketch
	for range 2 {
		for _, h := range kinds() {
			for range 5 {
				s.Touch(h)
			}
			if n := s.Estimate(h); n != 0 {
				t.Errorf("Estimate(%#x) = %d", h, n)
			}
			if n := s.Touches(); n != 0 {
				t.Errorf("Touches = %d", n)
			}
		}
	}
}

func TestExampleOfTheChapter(t *testing.T) {
	for _, h := range kinds() {
		s := New()
		for range 3 {
			s.Touch(h)
		}
		if n := s.Estimate(h); n != 3 {
			t.Errorf("after three touches: Estimate(%#x) = %d", h, n)
		}
	}
}

func TestTouchesOfOneHash(t *testing.T) {
	for _, h := range kinds() {
		x := newTwin(t, kinds()...)
		for i := 1; i <= 20; i++ {
			x.touch(h)
			x.want("Touch", h, min(i, 15))
			if n := x.s.Touches(); n != i {
				t.Fatalf("after %d touches of %#x: Touches = %d", i, h, n)
			}
		}
	}
}

// TestEveryIndex touches each index of the rows another number of times.
func TestEveryIndex(t *testing.T) {
	x := newTwin(t)
	for i := range 64 {
		for range i % 17 {
			x.touch(indices{i, (i + 16) % 64, (i + 32) % 64, (i + 48) % 64}.hash())
		}
	}
	for row := range 4 {
		for i := range 64 {
			if want := min((i+64-16*row)%64%17, 15); x.p.counters[row][i] != want {
				t.Fatalf("the counter %d of the row %d is %d, want %d", i, row, x.p.counters[row][i], want)
			}
		}
	}
	x.lookAtAll("touches of every index")
}

// mixed returns the indices of a in the rows of the set, and those of b in the others.
func mixed(set int, a, b indices) indices {
	for row := range b {
		if set>>row&1 == 1 {
			b[row] = a[row]
		}
	}
	return b
}

// TestHashesThatShareCounters has two hashes that share every set of counters, and hashes that share some with each of them.
func TestHashesThatShareCounters(t *testing.T) {
	for _, pair := range [][2]indices{
		{{5, 5, 5, 5}, {6, 6, 6, 6}},
		{{0, 0, 0, 0}, {63, 63, 63, 63}},
		{{63, 0, 63, 0}, {0, 63, 0, 63}},
		{{1, 2, 3, 4}, {4, 3, 2, 1}},
		{{62, 31, 32, 1}, {63, 32, 31, 0}},
	} {
		for set := range 16 {
			for _, n := range [][2]int{{1, 0}, {1, 1}, {2, 5}, {7, 8}, {8, 8}, {15, 1}, {1, 16}, {20, 20}} {
				shareCounters(t, pair[0], mixed(set, pair[0], pair[1]), n[0], n[1])
			}
		}
	}
}

// shareCounters touches two hashes, and asks for all hashes that have a counter of one of them in each row.
func shareCounters(t *testing.T, a, b indices, aTouches, bTouches int) {
	t.Helper()
	x := newTwin(t, a.hash(), b.hash())
	x.touchTimes(a.hash(), aTouches)
	x.touchTimes(b.hash(), bTouches)
	for set := range 16 {
		c, want := mixed(set, a, b), 15
		for row := range c {
			n := 0
			if c[row] == a[row] {
				n += aTouches
			}
			if c[row] == b[row] {
				n += bTouches
			}
			want = min(want, n)
		}
		x.want(fmt.Sprintf("touches of %v and %v", a, b), c.hash(), want)
	}
}

// TestTheLeastCounter has a hash whose counters are touched through other hashes, with the least of them in every row.
func TestTheLeastCounter(t *testing.T) {
	for _, counts := range [][4]int{
		{0, 1, 2, 3}, {3, 0, 1, 2}, {2, 3, 0, 1}, {1, 2, 3, 0},
		{1, 9, 9, 9}, {9, 1, 9, 9}, {9, 9, 1, 9}, {9, 9, 9, 1},
		{14, 15, 16, 17}, {17, 14, 15, 16}, {16, 17, 14, 15}, {15, 16, 17, 14},
		{0, 20, 20, 20}, {20, 0, 20, 20}, {20, 20, 0, 20}, {20, 20, 20, 0},
		{15, 15, 15, 15}, {18, 17, 16, 15}, {5, 5, 5, 5},
	} {
		middle := indices{20, 21, 22, 23}
		x := newTwin(t, middle.hash())
		for row, n := range counts {
			other := indices{40, 41, 42, 43}
			other[row] = middle[row]
			x.touchTimes(other.hash(), n)
		}
		x.want(fmt.Sprint("counters of ", counts), middle.hash(), min(slices.Min(counts[:]), 15))
	}
}

// TestHashesWithTheSameCounters has hashes that differ only above their lowest 24 bits.
func TestHashesWithTheSameCounters(t *testing.T) {
	for _, low := range []uint64{0, 5, 64*3 + 5, 1<<24 - 1, 0x123456} {
		seen := []uint64{low, low | 1<<24, low | 1<<30, low | 1<<32, low | 1<<63, low | 0xFFFFFFFFFF<<24}
		x := newTwin(t, seen...)
		for i, h := range seen {
			x.touchTimes(h, 2)
			for _, other := range seen {
				x.want("touches", other, 2*(i+1))
			}
		}
		x.touchTimes(seen[3], 8)
		for _, h := range seen {
			x.want("touches", h, 15)
		}
	}
}

// TestTheDivision has counters of all numbers, of which the 640th touch reaches none but the filler.
func TestTheDivision(t *testing.T) {
	x := newTwin(t, filler)
	counts := []int{0, 1, 2, 3, 4, 5, 6, 7, 8, 9, 10, 11, 12, 13, 14, 15, 16, 17, 29, 30, 31, 32}
	for i, n := range counts {
		x.touchTimes(same(i), n)
	}
	x.fill(639)
	for i, n := range counts {
		x.want("639 touches", same(i), min(n, 15))
	}
	x.want("639 touches", filler, 15)
	x.lookAtAll("639 touches")
	x.touch(filler)
	for i, n := range counts {
		x.want("640 touches", same(i), []int{0, 0, 1, 1, 2, 2, 3, 3, 4, 4, 5, 5, 6, 6, 7, 7}[min(n, 15)])
	}
	x.want("640 touches", filler, 7)
	if n := x.s.Touches(); n != 320 {
		t.Fatalf("after 640 touches: Touches = %d", n)
	}
	x.lookAtAll("640 touches")
	x.touch(filler)
	x.want("641 touches", filler, 8)
	if n := x.s.Touches(); n != 321 {
		t.Fatalf("after 641 touches: Touches = %d", n)
	}
	x.lookAtAll("641 touches")
}

// TestTheDivisionOfEveryCounter has counters of every index, which differ from row to row.
func TestTheDivisionOfEveryCounter(t *testing.T) {
	for shift := range 8 {
		x := newTwin(t)
		for n := 0; n < 639; n++ {
			i := n * (n + shift) / 2 % 64
			x.touch(indices{i, 63 - i, (i + 8*shift) % 64, i ^ shift}.hash())
		}
		x.touch(indices{shift, 60, 9 * shift, 3}.hash())
		x.touch(indices{shift, 60, 9 * shift, 3}.hash())
	}
}

// TestTheTouchOfTheDivision has a counter of each number that the 640th touch increases before it is divided.
func TestTheTouchOfTheDivision(t *testing.T) {
	want := []int{0, 1, 1, 2, 2, 3, 3, 4, 4, 5, 5, 6, 6, 7, 7, 7, 7, 7}
	for n, half := range want {
		for _, h := range []uint64{0, same(1), indices{0, 62, 0, 62}.hash(), indices{1, 2, 3, 4}.hash() | 1<<63} {
			x := newTwin(t, h)
			x.touchTimes(h, n)
			x.fill(639)
			x.touch(h)
			x.want("the 640th touch", h, half)
			x.want("the 640th touch", filler, 7)
			x.touch(h)
			x.want("the 641st touch", h, half+1)
		}
	}
}

// TestTheDivisionOfSomeCountersOfAHash has a hash with one counter that the 640th touch reaches, and three that it does not.
func TestTheDivisionOfSomeCountersOfAHash(t *testing.T) {
	for row := range 4 {
		for n := range 17 {
			h, last := indices{10, 10, 10, 10}, indices{20, 20, 20, 20}
			last[row] = h[row]
			x := newTwin(t, h.hash(), last.hash())
			x.touchTimes(h.hash(), n)
			x.touchTimes(last.hash(), n)
			x.fill(639)
			x.touch(last.hash())
			x.want("the 640th touch", h.hash(), min(n, 15)/2)
			x.want("the 640th touch", last.hash(), min(n+1, 15)/2)
		}
	}
}

// TestTheNextDivisions goes on behind the first division: there are 320 touches from each one to the next one.
func TestTheNextDivisions(t *testing.T) {
	x := newTwin(t, filler)
	x.touchTimes(same(1), 15)
	x.touchTimes(same(2), 9)
	touches := 24
	before := [2]int{15, 9}
	for _, after := range [][2]int{{7, 4}, {3, 2}, {1, 1}, {0, 0}, {0, 0}} {
		for ; touches < 639; touches++ {
			x.touch(filler)
			x.want("a touch", same(1), before[0])
			x.want("a touch", same(2), before[1])
			if n := x.s.Touches(); n != touches+1 {
				t.Fatalf("Touches = %d, want %d", n, touches+1)
			}
		}
		x.want("639 touches", filler, 15)
		x.touch(filler)
		x.want("the division", same(1), after[0])
		x.want("the division", same(2), after[1])
		x.want("the division", filler, 7)
		if n := x.s.Touches(); n != 320 {
			t.Fatalf("after the division: Touches = %d", n)
		}
		touches, before = 320, after
	}
}

// TestTheHashThatIsUsedAgain rises again between two divisions, while another one that is not used any more is forgotten.
func TestTheHashThatIsUsedAgain(t *testing.T) {
	x := newTwin(t)
	x.touchTimes(same(1), 15)
	x.touchTimes(same(2), 15)
	x.fill(639)
	x.touch(filler)
	for _, forgotten := range []int{3, 1, 0, 0, 0} {
		x.touchTimes(same(1), 6)
		x.want("six touches", same(1), 13)
		x.touchTimes(same(1), 3)
		x.want("nine touches", same(1), 15)
		x.fill(639)
		x.touch(filler)
		x.want("the division", same(1), 7)
		x.want("the division", same(2), forgotten)
	}
}

// TestALongSequence touches hashes without a pattern, some of them far more often than others.
func TestALongSequence(t *testing.T) {
	for seed := range uint64(4) {
		pick := rand.New(rand.NewPCG(seed, 0))
		hashes := kinds()
		for range 200 {
			hashes = append(hashes, pick.Uint64())
		}
		pick.Shuffle(len(hashes), func(i, j int) { hashes[i], hashes[j] = hashes[j], hashes[i] })
		x := newTwin(t, hashes...)
		for i := range 4000 {
			n := len(hashes)
			if i%3 > 0 {
				n = 20 + i/500
			}
			x.touch(hashes[pick.IntN(n)])
		}
		x.lookAtAll("a long sequence")
	}
}

// TestHashesOfFewCounters touches hashes that share their counters with many others.
func TestHashesOfFewCounters(t *testing.T) {
	for seed := range uint64(4) {
		pick := rand.New(rand.NewPCG(seed, 1))
		x := newTwin(t)
		for range 3000 {
			var h indices
			for row := range h {
				h[row] = 9*row + pick.IntN(1+pick.IntN(24))
			}
			x.touch(h.hash() | pick.Uint64()<<24)
		}
		x.lookAtAll("touches of few counters")
	}
}

// TestReadsChangeNothing has two sketches with the same touches, of which only one is asked for anything between them.
func TestReadsChangeNothing(t *testing.T) {
	hashes := kinds()
	asked, left := New(), New()
	for i := range 2500 {
		h := hashes[i*i%len(hashes)]
		asked.Touch(h)
		left.Touch(h)
		for j := range 3 {
			other := hashes[(i+j)%len(hashes)]
			if first, again := asked.Estimate(other), asked.Estimate(other); first != again {
				t.Fatalf("Estimate(%#x) = %d, and then %d", other, first, again)
			}
			if first, again := asked.Touches(), asked.Touches(); first != again {
				t.Fatalf("Touches = %d, and then %d", first, again)
			}
		}
	}
	sameSketches(t, asked, left)
}

// sameSketches asks both sketches for everything.
func sameSketches(t *testing.T, a, b *Sketch) {
	t.Helper()
	if a.Touches() != b.Touches() {
		t.Fatalf("Touches = %d, and %d in the other sketch", a.Touches(), b.Touches())
	}
	for h := range uint64(1 << 24) {
		if x, y := a.Estimate(h), b.Estimate(h); x != y {
			t.Fatalf("Estimate(%#x) = %d, and %d in the other sketch", h, x, y)
		}
	}
}

// TestEstimatesAreNotTooLow is the consequence: with fewer than 640 touches, other hashes may raise an estimate, but nothing lowers it.
func TestEstimatesAreNotTooLow(t *testing.T) {
	for seed := range uint64(40) {
		pick := rand.New(rand.NewPCG(seed, 2))
		wide := 1 + pick.IntN(64)
		var hashes []uint64
		for range 1 + pick.IntN(300) {
			h := indices{pick.IntN(wide), pick.IntN(wide), pick.IntN(wide), pick.IntN(wide)}
			hashes = append(hashes, h.hash()|pick.Uint64()<<24)
		}
		s := New()
		counts := map[uint64]int{}
		for i := range 639 {
			h := hashes[pick.IntN(len(hashes))]
			s.Touch(h)
			counts[h]++
			for h, n := range counts {
				if got := s.Estimate(h); got < min(n, 15) {
					t.Fatalf("after %d touches, %d of them of %#x: Estimate = %d", i+1, n, h, got)
				}
			}
		}
	}
}

// TestTheOrderOfTouches makes the same touches, fewer than 640, in several orders.
func TestTheOrderOfTouches(t *testing.T) {
	for seed := range uint64(3) {
		pick := rand.New(rand.NewPCG(seed, 3))
		var touches []uint64
		for i := range 639 {
			touches = append(touches, keyhash.Hash([]byte{byte(pick.IntN(1 + i%90))}))
		}
		sorted := slices.Sorted(slices.Values(touches))
		reversed := slices.Clone(sorted)
		slices.Reverse(reversed)
		shuffled := slices.Clone(sorted)
		pick.Shuffle(len(shuffled), func(i, j int) { shuffled[i], shuffled[j] = shuffled[j], shuffled[i] })
		first := touched(touches)
		for _, order := range [][]uint64{sorted, reversed, shuffled} {
			sameSketches(t, first, touched(order))
		}
	}
}

// touched returns a new sketch with these touches.
func touched(hashes []uint64) *Sketch {
	s := New()
	for _, h := range hashes {
		s.Touch(h)
	}
	return s
}

func TestSketchesShareNothing(t *testing.T) {
	x, y := newTwin(t, kinds()...), newTwin(t, kinds()...)
	for i := range 700 {
		x.touch(uint64(i % 30 * 65))
		y.look("a touch of another sketch")
		if i%2 == 0 {
			y.touch(uint64(i % 20))
			x.look("a touch of another sketch")
		}
	}
	(&twin{t: t, s: New()}).look("touches of other sketches")
}

// TestTheSameTouches makes the same touches in several sketches, whose estimates are equal.
func TestTheSameTouches(t *testing.T) {
	var hashes []uint64
	for i := range 2000 {
		hashes = append(hashes, keyhash.Hash([]byte{byte(i * i % 97)}))
	}
	first := touched(hashes)
	for range 2 {
		sameSketches(t, first, touched(hashes))
	}
}
