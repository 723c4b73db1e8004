package chain

import (
	"bytes"
	"cmp"
	"fmt"
	"math"
	"slices"
	"strconv"
	"strings"
	"testing"
	"unsafe"
)

// extremes are sequence numbers and offsets at both ends of their ranges and around 0, in ascending order. Some of them differ by more than an int holds.
var extremes = []int{
	math.MinInt, math.MinInt + 1, math.MinInt32 - 1, math.MinInt32, -256, -2, -1,
	0, 1, 2, 255, 256, math.MaxInt32, math.MaxInt32 + 1, 1<<48 - 1, math.MaxInt - 1, math.MaxInt,
}

// oddKeys returns keys of all kinds.
func oddKeys() []string {
	keys := []string{
		"", " ", "k", "ke", "key", "key ", "Key", "\x00", "\x00\x00", "\x00k", "k\x00", "k\x00k",
		"\x80", "\xff", "\xff\xff", "k\x80", "\xc3\x28", "\xed\xa0\x80", "\xef\xbf\xbd", "\xf8\x88\x80\x80\x80",
		"\u00e9", "e\u0301", "\u4e16\u754c", "\U0001f511", "0", "a\nb", "\r\n", "\t",
	}
	for _, n := range []int{255, 256, 65536, 1 << 18} {
		keys = append(keys, strings.Repeat("x", n), strings.Repeat("\x00", n))
	}
	return keys
}

// random returns a source of numbers without a visible pattern, the same ones each time.
func random(seed uint32) func(n int) int {
	return func(n int) int {
		seed = seed*1664525 + 1013904223
		return int(seed>>8) % n
	}
}

// orders returns all orders of the numbers from 0 to n-1.
func orders(n int) [][]int {
	if n == 0 {
		return [][]int{nil}
	}
	var all [][]int
	for _, order := range orders(n - 1) {
		for i := range n {
			all = append(all, slices.Insert(slices.Clone(order), i, n-1))
		}
	}
	return all
}

// show is what an error message shows of items.
func show(items []Item) string {
	var b strings.Builder
	for _, item := range items {
		fmt.Fprintf(&b, "%d:%.40q ", item.Off, item.Key)
	}
	return fmt.Sprintf("[%.200s] (%d items)", b.String(), len(items))
}

// row is an item and its sequence number.
type row struct {
	seq  int
	item Item
}

// twin is a chain and, beside it, the list of rows that it should have, in ascending order of their sequence numbers and their offsets.
type twin struct {
	t    *testing.T
	c    *Chain
	list []row
	seqs []int // those that calls have named so far
}

func newTwin(t *testing.T) *twin {
	t.Helper()
	x := &twin{t: t, c: New()}
	x.look("New")
	return x
}

// index returns where the row with seq and off is in the list, or would be.
func (x *twin) index(seq, off int) (int, bool) {
	return slices.BinarySearchFunc(x.list, row{seq, Item{Off: off}}, func(a, b row) int {
		return cmp.Or(cmp.Compare(a.seq, b.seq), cmp.Compare(a.item.Off, b.item.Off))
	})
}

// want returns the items that seq should have.
func (x *twin) want(seq int) []Item {
	var items []Item
	for _, r := range x.list {
		if r.seq == seq {
			items = append(items, r.item)
		}
	}
	return items
}

// wantSeqs returns the sequence numbers that should have items.
func (x *twin) wantSeqs() []int {
	var seqs []int
	for _, r := range x.list {
		seqs = append(seqs, r.seq)
	}
	return slices.Compact(seqs)
}

func (x *twin) add(seq, off int, key string) {
	x.t.Helper()
	x.c.Add(seq, off, key)
	r := row{seq, Item{Off: off, Key: strings.Clone(key)}}
	i, there := x.index(seq, off)
	if there {
		x.list[i] = r
	} else {
		x.list = slices.Insert(x.list, i, r)
	}
	x.named(seq)
	x.look(fmt.Sprintf("Add(%d, %d, %.40q)", seq, off, key))
}

func (x *twin) remove(seq, off int) {
	x.t.Helper()
	i, there := x.index(seq, off)
	if there {
		x.list = slices.Delete(x.list, i, i+1)
	}
	if got := x.c.Remove(seq, off); got != there {
		x.t.Fatalf("Remove(%d, %d) = %t, want %t", seq, off, got, there)
	}
	x.named(seq)
	x.look(fmt.Sprintf("Remove(%d, %d)", seq, off))
}

// drop drops seq, and checks that the result is what Items returned before.
func (x *twin) drop(seq int) {
	x.t.Helper()
	want := x.want(seq)
	before := x.c.Items(seq)
	if got := x.c.Drop(seq); !slices.Equal(got, want) || !slices.Equal(got, before) {
		x.t.Fatalf("Drop(%d) = %s, want %s, and Items before was %s", seq, show(got), show(want), show(before))
	}
	x.list = slices.DeleteFunc(x.list, func(r row) bool { return r.seq == seq })
	x.named(seq)
	x.look(fmt.Sprintf("Drop(%d)", seq))
}

// named remembers a sequence number whose items are to be looked at, and with it those beside it.
func (x *twin) named(seq int) {
	for _, s := range []int{seq - 1, seq, seq + 1} { // at the ends of the range, these wrap around
		if i, there := slices.BinarySearch(x.seqs, s); !there {
			x.seqs = slices.Insert(x.seqs, i, s)
		}
	}
}

// look checks everything that the chain tells after a call.
func (x *twin) look(what string) {
	x.t.Helper()
	if got, want := x.c.Seqs(), x.wantSeqs(); !slices.Equal(got, want) {
		x.t.Fatalf("after %s: Seqs = %d, want %d", what, got, want)
	}
	for _, seq := range x.seqs {
		if got, want := x.c.Items(seq), x.want(seq); !slices.Equal(got, want) {
			x.t.Fatalf("after %s: Items(%d) = %s, want %s", what, seq, show(got), show(want))
		}
	}
}

// isEmpty reports an error unless c is a chain without items.
func isEmpty(t *testing.T, c *Chain) {
	t.Helper()
	for range 2 {
		for _, seq := range extremes {
			if items := c.Items(seq); len(items) != 0 {
				t.Errorf("Items(%d) = %s", seq, show(items))
			}
			if items := c.Drop(seq); len(items) != 0 {
				t.Errorf("Drop(%d) = %s", seq, show(items))
			}
			for _, off := range extremes {
				if c.Remove(seq, off) {
					t.Errorf("Remove(%d, %d) = true", seq, off)
				}
			}
		}
		if seqs := c.Seqs(); len(seqs) != 0 {
			t.Errorf("Seqs = %d", seqs)
		}
	}
}

func TestNewChain(t *testing.T) {
	isEmpty(t, New())
}

// TestTheZeroChain has a chain that New has not made: it has no items either.
func TestTheZeroChain(t *testing.T) {
	isEmpty(t, &Chain{})
	x := &twin{t: t, c: &Chain{}}
	x.add(5, 17, "a")
	x.add(5, 0, "b")
	x.remove(5, 17)
	x.drop(5)
}

func TestANilChain(t *testing.T) {
	var c *Chain
	for _, n := range extremes {
		c.Add(n, n, "a")
		if c.Remove(n, n) {
			t.Errorf("Remove(%d, %d) = true", n, n)
		}
		if items := c.Items(n); items != nil {
			t.Errorf("Items(%d) = %s", n, show(items))
		}
		if items := c.Drop(n); items != nil {
			t.Errorf("Drop(%d) = %s", n, show(items))
		}
		if seqs := c.Seqs(); seqs != nil {
			t.Errorf("Seqs = %d", seqs)
		}
	}
}

func TestExampleOfTheChapter(t *testing.T) {
	c := New()
	c.Add(5, 17, "a")
	c.Add(5, 0, "b")
	if items := c.Items(5); !slices.Equal(items, []Item{{Off: 0, Key: "b"}, {Off: 17, Key: "a"}}) {
		t.Errorf("Items(5) = %s", show(items))
	}
	if seqs := c.Seqs(); !slices.Equal(seqs, []int{5}) {
		t.Errorf("Seqs = %d", seqs)
	}
}

func TestAdd(t *testing.T) {
	x := newTwin(t)
	x.add(5, 17, "a")
	x.add(5, 0, "b")
	x.add(5, 18, "a") // a key may be at several offsets
	x.add(5, 17, "c") // in the place of a
	x.add(5, 17, "c")
	x.add(5, 0, "")
	x.add(5, 18, "b")
	x.add(6, 17, "a")
	x.add(5, 17, "a")
	if items := x.c.Items(5); len(items) != 3 {
		t.Errorf("%d items after Adds at three offsets", len(items))
	}
}

// TestTheSameItemAtSeveralSequenceNumbers has items that differ in nothing else, and sequence numbers and offsets that change places.
func TestTheSameItemAtSeveralSequenceNumbers(t *testing.T) {
	x := newTwin(t)
	for _, seq := range []int{7, 3, 17, 5, 4} {
		x.add(seq, 17, "a")
		x.add(17, seq, "a")
	}
	x.add(3, 17, "b")
	x.remove(7, 17)
	x.remove(17, 7)
	x.remove(17, 3)
	x.drop(5)
	x.add(5, 17, "a")
	x.drop(17)
}

func TestRemove(t *testing.T) {
	x := newTwin(t)
	x.remove(5, 17)
	x.add(5, 17, "a")
	x.add(5, 0, "b")
	x.add(5, 34, "")
	x.add(2, 17, "a")
	for _, off := range []int{1, 16, 18, -17, 5} {
		x.remove(5, off) // it never was there
	}
	x.remove(4, 17)
	x.remove(6, 0)
	x.remove(2, 0)
	x.remove(17, 5)
	for range 2 {
		x.remove(5, 34)
		x.remove(5, 17)
	}
	x.add(5, 17, "c")
	x.remove(5, 0)
	x.remove(5, 17)
	x.remove(5, 17)
	x.remove(5, 0)
}

func TestAddBehindARemove(t *testing.T) {
	x := newTwin(t)
	x.add(5, 0, "a")
	for _, key := range []string{"b", "c", "c", "", "d"} {
		x.add(5, 17, key)
		x.remove(5, 17)
		x.remove(5, 17)
	}
	x.add(5, 17, "e")
}

// TestTheLastItemOfASequenceNumber has a sequence number that loses all of its items and gets others, in every order of the Removes.
func TestTheLastItemOfASequenceNumber(t *testing.T) {
	for _, order := range orders(4) {
		x := newTwin(t)
		x.add(4, 0, "a")
		x.add(6, 0, "a")
		for range 2 {
			for i := range order {
				x.add(5, 17*i, strconv.Itoa(i))
			}
			for _, i := range order {
				x.remove(5, 17*i)
			}
			x.remove(5, 0)
			x.drop(5)
		}
		x.remove(4, 0)
		x.remove(6, 0)
		isEmpty(t, x.c)
		x.add(6, 1, "b")
		x.add(5, 1, "c")
	}
}

func TestDrop(t *testing.T) {
	x := newTwin(t)
	x.drop(5)
	for _, n := range []int{1, 2, 3, 10, 300} {
		x.add(4, 0, "four")
		x.add(6, 17*n, "six")
		for i := range n {
			x.add(5, 17*i, strconv.Itoa(i))
		}
		x.drop(7) // without items
		x.drop(5)
		x.drop(5)
		x.remove(5, 0)
		x.add(5, 17, "again")
		x.drop(5)
		x.add(5, 0, "again")
	}
	x.drop(4)
	x.drop(6)
	x.drop(5)
	isEmpty(t, x.c)
}

// TestOrder adds items in every order, at numbers of which some differ by more than an int holds.
func TestOrder(t *testing.T) {
	numbers := []int{math.MinInt, -3, 0, 4, 17, math.MaxInt}
	for _, order := range orders(len(numbers)) {
		offs, seqs := New(), New()
		var items []Item
		for _, i := range order {
			offs.Add(5, numbers[i], strconv.Itoa(i))
			seqs.Add(numbers[i], 5, strconv.Itoa(i))
		}
		for i, n := range numbers {
			items = append(items, Item{Off: n, Key: strconv.Itoa(i)})
		}
		if got := offs.Items(5); !slices.Equal(got, items) {
			t.Fatalf("Items = %s, want %s", show(got), show(items))
		}
		if got := seqs.Seqs(); !slices.Equal(got, numbers) {
			t.Fatalf("Seqs = %d, want %d", got, numbers)
		}
		if got := offs.Drop(5); !slices.Equal(got, items) {
			t.Fatalf("Drop = %s, want %s", show(got), show(items))
		}
	}
}

// TestOrderOfManyItems adds items in ascending order, in descending order, and in one without a pattern.
func TestOrderOfManyItems(t *testing.T) {
	const n = 2000
	orders := []func(i int) int{
		func(i int) int { return i },
		func(i int) int { return n - 1 - i },
		func(i int) int { return i * 1237 % n },
	}
	for _, order := range orders {
		c := New()
		for i := range n {
			k := order(i) - n/2
			c.Add(5, k, strconv.Itoa(k))
			c.Add(k, 5, strconv.Itoa(k))
		}
		c.Remove(5, 5) // an item of both kinds
		items, seqs := c.Items(5), c.Seqs()
		if len(items) != n-1 || len(seqs) != n {
			t.Fatalf("%d items and %d Seqs, want %d and %d", len(items), len(seqs), n-1, n)
		}
		for i, item := range items {
			if item.Key != strconv.Itoa(item.Off) || i > 0 && item.Off <= items[i-1].Off {
				t.Fatalf("the item %d is %+v", i, item)
			}
		}
		for i, seq := range seqs {
			if seq != i-n/2 {
				t.Fatalf("the sequence number %d is %d", i, seq)
			}
		}
	}
}

func TestExtremes(t *testing.T) {
	x := newTwin(t)
	for i, seq := range extremes {
		for j, off := range extremes {
			if (i+j)%2 == 0 {
				x.add(seq, off, strconv.Itoa(seq^off))
			}
		}
	}
	for i, seq := range extremes {
		for _, off := range extremes[i%3:] {
			x.remove(seq, off)
		}
		if i%2 == 0 {
			x.drop(seq)
		}
	}
}

func TestKeysOfAllKinds(t *testing.T) {
	x := newTwin(t)
	for i, key := range oddKeys() {
		x.add(5, i, key)
		x.add(i, 5, key)
	}
	for i, key := range oddKeys() {
		x.add(5, i+1, key) // in the place of the next key
	}
	for i := range oddKeys() {
		x.remove(5, i)
		x.remove(i, 5)
	}
}

// TestAnItemWithTheEmptyKey has an item that equals the zero Item, which is one all the same.
func TestAnItemWithTheEmptyKey(t *testing.T) {
	x := newTwin(t)
	x.add(0, 0, "")
	x.add(0, 0, "a")
	x.add(0, 0, "")
	x.add(1, 0, "")
	x.remove(0, 0)
	x.remove(0, 0)
	x.drop(1)
	x.drop(1)
}

// TestEveryShortSequence makes every sequence of a few calls, at two sequence numbers and two offsets.
func TestEveryShortSequence(t *testing.T) {
	calls := []func(x *twin){
		func(x *twin) { x.add(0, 0, "a") },
		func(x *twin) { x.add(0, 0, "") },
		func(x *twin) { x.add(0, 1, "a") },
		func(x *twin) { x.add(1, 0, "b") },
		func(x *twin) { x.remove(0, 0) },
		func(x *twin) { x.remove(0, 1) },
		func(x *twin) { x.remove(1, 0) },
		func(x *twin) { x.drop(0) },
		func(x *twin) { x.drop(1) },
	}
	const length = 5
	all := 1
	for range length {
		all *= len(calls)
	}
	for sequence := range all {
		x := &twin{t: t, c: New()}
		for range length {
			calls[sequence%len(calls)](x)
			sequence /= len(calls)
		}
	}
}

// TestALongSequence makes calls without a pattern, first mostly Adds, and later mostly Removes and Drops.
func TestALongSequence(t *testing.T) {
	for seed := range uint32(3) {
		pick := random(seed)
		x := newTwin(t)
		for i := range 6000 {
			seq, off := pick(9)-4, 17*(pick(40)-3)
			switch n := pick(100); {
			case n < 70-i/100:
				x.add(seq, off, "key"+strconv.Itoa(pick(30)))
			case n < 98-i/1000:
				x.remove(seq, off)
			default:
				x.drop(seq)
			}
		}
	}
}

func TestALargeChain(t *testing.T) {
	const n = 100000
	c := New()
	for i := range n {
		c.Add(i%7, i, strconv.Itoa(i))
	}
	for i := range n {
		if i%5 != 0 && !c.Remove(i%7, i) {
			t.Fatalf("Remove(%d, %d) = false", i%7, i)
		}
	}
	for seq := range 7 {
		items := c.Drop(seq)
		for _, item := range items {
			if item.Off%7 != seq || item.Off%5 != 0 || item.Key != strconv.Itoa(item.Off) {
				t.Fatalf("Drop(%d) returned %+v", seq, item)
			}
		}
		if len(items) != (n-1-items[0].Off)/35+1 {
			t.Errorf("Drop(%d) returned %d items", seq, len(items))
		}
	}
	isEmpty(t, c)
}

// spoil changes all the memory of a result, also its spare capacity.
func spoil(items []Item) {
	items = items[:cap(items)]
	for i := range items {
		items[i] = Item{Off: -100 - i, Key: "spoiled"}
	}
}

// spoilSeqs changes all the memory of a result of Seqs.
func spoilSeqs(seqs []int) {
	seqs = seqs[:cap(seqs)]
	for i := range seqs {
		seqs[i] = -100 - i
	}
}

func TestResultsAreCopies(t *testing.T) {
	for _, n := range []int{1, 2, 3, 5, 8, 100} {
		x := newTwin(t)
		for i := range n {
			x.add(5, 17*i, strconv.Itoa(i))
			x.add(100+i, 0, "a")
		}
		first, second := x.c.Items(5), x.c.Items(5)
		for i := range first {
			if unsafe.StringData(first[i].Key) == unsafe.StringData(second[i].Key) {
				t.Fatalf("the key %q is in two results", first[i].Key)
			}
		}
		firstSeqs, secondSeqs := x.c.Seqs(), x.c.Seqs()
		spoil(first)
		spoilSeqs(firstSeqs)
		x.look("a change of the results")
		want, wantSeqs := x.want(5), x.wantSeqs()
		if !slices.Equal(second, want) || !slices.Equal(secondSeqs, wantSeqs) {
			t.Errorf("a result changes another one: %s, %d", show(second), secondSeqs)
		}
		dropped := x.c.Drop(5)
		x.list = slices.DeleteFunc(x.list, func(r row) bool { return r.seq == 5 })
		x.add(5, 0, "new")
		x.remove(100, 0)
		if !slices.Equal(dropped, want) || !slices.Equal(second, want) || !slices.Equal(secondSeqs, wantSeqs) {
			t.Errorf("a later call changes a result: %s, %s, %d", show(dropped), show(second), secondSeqs)
		}
		spoil(dropped)
		x.look("a change of what was dropped")
		if !slices.Equal(second, want) {
			t.Errorf("the result of Drop changes that of Items: %s", show(second))
		}
	}
}

// TestKeysAreCopies changes the memory of keys after the Adds that they were passed to.
func TestKeysAreCopies(t *testing.T) {
	c := New()
	for i := range 30 {
		b := []byte("key" + strconv.Itoa(i))
		old := bytes.Clone(b)
		key := unsafe.String(&b[0], len(b))
		c.Add(5, i, "other")
		c.Add(5, i, key)
		c.Add(i, 5, key)
		c.Items(i)
		if !bytes.Equal(b, old) {
			t.Errorf("%q became %q", old, b)
		}
		copy(b, "xyz")
	}
	for i, item := range c.Items(5) {
		if want := "key" + strconv.Itoa(i); item != (Item{Off: i, Key: want}) {
			t.Errorf("the item %d is %+v, want the key %q", i, item, want)
		}
	}
}

func TestChainsShareNothing(t *testing.T) {
	x, y := newTwin(t), newTwin(t)
	for i := range 60 {
		x.add(i%4, i, strconv.Itoa(i))
		y.look("an Add to another chain")
		y.add(i%4, i, "key"+strconv.Itoa(i))
		x.look("an Add to another chain")
		if i%3 == 0 {
			x.remove(i%4, i)
			y.look("a Remove from another chain")
		}
	}
	y.drop(2)
	x.look("a Drop from another chain")
	isEmpty(t, New())
}
