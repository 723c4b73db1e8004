package expiry

import (
	"bytes"
	"cmp"
	"fmt"
	"math"
	"math/rand/v2"
	"slices"
	"strconv"
	"strings"
	"testing"
	"unsafe"
)

// times are expiries and times at both ends of their ranges and around 0, in ascending order. Some of them differ by more than an int holds.
var times = []int{
	math.MinInt, math.MinInt + 1, math.MinInt32 - 1, -256, -2, -1,
	0, 1, 2, 3, 255, 256, math.MaxInt32, math.MaxInt32 + 1, 1<<40 - 1, math.MaxInt - 1, math.MaxInt,
}

// sortedKeys are keys of all kinds, in ascending order.
var sortedKeys = []string{
	"", "\x00", "\x00\x00", "\x00\x00k", "\x00\x01", "\x00k", "\x01", "\n", " ", "0", "10", "9",
	"K", "Key", "k", "k\x00", "k\x00\x00", "k\x00k", "k\x01", "k ", "ke", "key", "key\x00", "key ", "keys",
	"k\x80", "k\xff", "l", "\x7f", "\x80", "\x80\x80", "\xc3", "\xc3\x28", "\u00e9", "\xed\xa0\x80", "\uffff", "\U0001f511", "\xfe", "\xff", "\xff\x00", "\xff\xff",
}

// row is a key and its expiry.
type row struct {
	key string
	at  int
}

// compareRows is the order of Due.
func compareRows(a, b row) int {
	return cmp.Or(cmp.Compare(a.at, b.at), bytes.Compare([]byte(a.key), []byte(b.key)))
}

// twin is a queue and, beside it, the list of rows that it should have, in the order of Due.
type twin struct {
	t    *testing.T
	q    *Queue
	list []row
}

// newTwin returns a twin with these keys, all of which expire at the same time.
func newTwin(t *testing.T, at int, keys ...string) *twin {
	t.Helper()
	x := &twin{t: t, q: New()}
	x.look("New")
	for _, key := range keys {
		x.put(key, at)
	}
	return x
}

// want returns the keys that are due until now.
func (x *twin) want(now int) []string {
	var keys []string
	for _, r := range x.list {
		if r.at <= now {
			keys = append(keys, r.key)
		}
	}
	return keys
}

// without takes key out of the list.
func (x *twin) without(key string) {
	x.list = slices.DeleteFunc(x.list, func(r row) bool { return r.key == key })
}

func (x *twin) put(key string, at int) {
	x.t.Helper()
	x.q.Put(key, at)
	x.without(key)
	if r := (row{strings.Clone(key), at}); at >= 1 {
		i, _ := slices.BinarySearchFunc(x.list, r, compareRows)
		x.list = slices.Insert(x.list, i, r)
	}
	x.look(fmt.Sprintf("Put(%.40q, %d)", key, at))
}

func (x *twin) remove(key string) {
	x.t.Helper()
	x.q.Remove(key)
	x.without(key)
	x.look(fmt.Sprintf("Remove(%.40q)", key))
}

// due takes the keys that are due, and returns them.
func (x *twin) due(now int) []string {
	x.t.Helper()
	want := x.want(now)
	got := x.q.Due(now)
	if !slices.Equal(got, want) {
		x.t.Fatalf("Due(%d) = %.300q, want %.300q", now, got, want)
	}
	x.list = slices.Delete(x.list, 0, len(want))
	x.look(fmt.Sprintf("Due(%d)", now))
	return got
}

// look checks what the queue tells after a call without changing it.
func (x *twin) look(what string) {
	x.t.Helper()
	next, some := 0, len(x.list) > 0
	if some {
		next = x.list[0].at
	}
	for range 2 {
		if got, ok := x.q.Next(); got != next || ok != some {
			x.t.Fatalf("after %s: Next = %d, %t, want %d, %t", what, got, ok, next, some)
		}
		if got := x.q.Len(); got != len(x.list) {
			x.t.Fatalf("after %s: Len = %d, want %d", what, got, len(x.list))
		}
	}
}

// end takes all keys, one expiry after the other.
func (x *twin) end() {
	x.t.Helper()
	for len(x.list) > 0 {
		x.due(x.list[0].at)
	}
	x.due(math.MaxInt)
}

// orders returns all orders of the numbers from 0 to n-1.
func orders(n int) [][]int {
	if n == 0 {
		return [][]int{nil}
	}
	var all [][]int
	for _, order := range orders(n - 1) {
		for i := range n {
			all = append(all, slices.Insert(slices.Clone(order), i, n-1))
		}
	}
	return all
}

// isEmpty makes calls that leave a queue without keys what it is.
func isEmpty(t *testing.T, q *Queue) {
	t.Helper()
	x := &twin{t: t, q: q}
	x.look("nothing")
	for _, now := range times {
		x.due(now)
	}
	for _, key := range sortedKeys {
		x.remove(key)
		x.put(key, 0)
		x.put(key, -1)
		x.put(key, math.MinInt)
	}
	x.due(math.MaxInt)
}

func TestNewQueue(t *testing.T) {
	isEmpty(t, New())
}

// TestTheZeroQueue has a queue that New has not made: it has no keys either.
func TestTheZeroQueue(t *testing.T) {
	isEmpty(t, &Queue{})
	x := &twin{t: t, q: &Queue{}}
	x.put("b", 5)
	x.put("a", 5)
	x.remove("b")
	x.end()
}

func TestANilQueue(t *testing.T) {
	var q *Queue
	for _, at := range times {
		for _, key := range sortedKeys {
			q.Put(key, at)
			q.Remove(key)
			q.Put(key, at)
		}
		if next, ok := q.Next(); next != 0 || ok {
			t.Errorf("Next = %d, %t", next, ok)
		}
		if keys := q.Due(at); keys != nil {
			t.Errorf("Due(%d) = %q", at, keys)
		}
		if n := q.Len(); n != 0 {
			t.Errorf("Len = %d", n)
		}
	}
}

func TestExampleOfTheChapter(t *testing.T) {
	q := New()
	q.Put("b", 5)
	q.Put("a", 5)
	q.Put("c", 3)
	if keys := q.Due(5); !slices.Equal(keys, []string{"c", "a", "b"}) {
		t.Errorf("Due(5) = %q", keys)
	}
}

func TestPut(t *testing.T) {
	x := newTwin(t, 5, "b")
	x.put("a", 5)
	x.put("c", 3)
	x.put("d", 9)
	x.put("e", 1)
	x.put("f", math.MaxInt)
	if n, next := x.q.Len(), x.want(1); n != 6 || !slices.Equal(next, []string{"e"}) {
		t.Errorf("%d keys, of which %q are due first", n, next)
	}
	x.end()
}

// TestPutInThePlaceOfAnExpiry puts keys that are there already, the first one, the last one and others, again and again.
func TestPutInThePlaceOfAnExpiry(t *testing.T) {
	for _, key := range []string{"a", "b", "c", "d", "e"} {
		x := newTwin(t, 10, "a")
		for i, other := range []string{"b", "c", "d", "e"} {
			x.put(other, 20+10*i)
		}
		for _, at := range []int{50, 50, 51, 1, 1, 10, 9, 11, 30, 29, 31, math.MaxInt, math.MaxInt - 1, 2, 25} {
			x.put(key, at)
			if n := x.q.Len(); n != 5 {
				t.Fatalf("Len = %d after a Put of a key that is there", n)
			}
		}
		x.due(24) // only the last expiry counts
		x.end()
	}
}

// TestPutOfAnEarlierExpiry has keys whose earlier expiries, lesser or greater ones, do not come back.
func TestPutOfAnEarlierExpiry(t *testing.T) {
	x := newTwin(t, 5, "a", "b", "c")
	x.put("a", 8)
	x.put("b", 2)
	x.put("c", 5)
	if keys := x.due(5); !slices.Equal(keys, []string{"b", "c"}) {
		t.Errorf("Due(5) = %q", keys)
	}
	x.due(7)
	x.due(8)
	x.due(math.MaxInt)
	isEmpty(t, x.q)
}

func TestPutBelowOne(t *testing.T) {
	for _, at := range times {
		if at >= 1 {
			continue
		}
		for _, key := range []string{"a", "c", "b", "", "e"} { // the first one, the last one, one between, and two that are not there
			x := newTwin(t, 5, "b")
			x.put("a", 3)
			x.put("c", 8)
			n := x.q.Len()
			if slices.ContainsFunc(x.list, func(r row) bool { return r.key == key }) {
				n--
			}
			for range 2 {
				x.put(key, at)
				if got := x.q.Len(); got != n {
					t.Fatalf("Len = %d after Put(%q, %d), want %d", got, key, at, n)
				}
			}
			x.due(0)
			x.due(at)
			x.put(key, 1)
			x.put(key, at)
			x.put(key, 4)
			x.end()
		}
	}
}

func TestRemove(t *testing.T) {
	x := newTwin(t, 5, "d", "b", "f")
	x.put("a", 2)
	x.put("g", 9)
	x.put("c", 2)
	x.put("e", 7)
	for _, key := range []string{"", "A", "aa", "a\x00", "h", "d "} {
		x.remove(key) // it never was there
	}
	for range 2 {
		x.remove("a") // one of two at the least expiry
		x.remove("c") // the other one
		x.remove("e")
		x.remove("g") // at the greatest expiry
		x.remove("d")
	}
	x.due(4)
	x.remove("b")
	x.remove("f") // the last key
	x.remove("f")
	isEmpty(t, x.q)
}

func TestPutBehindARemove(t *testing.T) {
	x := newTwin(t, 5, "b", "c")
	for _, at := range []int{5, 1, 4, 6, math.MaxInt, 5, 3} {
		x.put("a", at)
		x.remove("a")
		x.remove("a")
		x.put("a", at)
		x.put("a", 0)
		x.remove("a")
	}
	x.put("a", 7)
	x.remove("b")
	x.put("b", 7)
	x.end()
}

// TestPutBehindDue puts keys that were due once more, also at times that have passed.
func TestPutBehindDue(t *testing.T) {
	x := newTwin(t, 5, "a", "b")
	x.put("c", 8)
	for _, at := range []int{5, 1, 9, math.MaxInt, 6} {
		x.due(6)
		x.put("b", at)
		x.put("a", at)
	}
	x.remove("b")
	x.due(6)
	x.remove("a") // it was due
	x.put("a", 0)
	x.end()
}

func TestDue(t *testing.T) {
	x := newTwin(t, 10, "b", "a")
	x.put("d", 20)
	x.put("c", 30)
	for _, now := range times {
		if now < 10 {
			x.due(now)
		}
	}
	x.due(9)
	if keys := x.due(10); !slices.Equal(keys, []string{"a", "b"}) {
		t.Errorf("Due(10) = %q", keys)
	}
	x.due(10)
	x.due(11)
	x.due(19)
	x.due(5)
	x.put("e", 20)
	x.due(29)
	x.due(29)
	x.due(31)
	x.due(31)
}

// TestDueAtEveryTime calls Due of queues that are alike, at times below, at and above each expiry.
func TestDueAtEveryTime(t *testing.T) {
	for _, at := range times {
		for d := -1; d <= 1; d++ {
			if (d < 0 && at == math.MinInt) || (d > 0 && at == math.MaxInt) {
				continue
			}
			x := newTwin(t, 7, "y", "x")
			for i, other := range times {
				x.put("key"+strconv.Itoa(i%3)+strconv.Itoa(i), other)
			}
			x.due(at + d)
			x.due(at + d)
			x.end()
		}
	}
}

// TestDueInTwoSteps takes in two steps, the second of which may be none, what another queue gives in one.
func TestDueInTwoSteps(t *testing.T) {
	for first := range 12 {
		for second := range 12 {
			x, y := newTwin(t, 6, "x", "b"), newTwin(t, 6, "x", "b")
			for i := range 20 {
				x.put(strconv.Itoa(i), i*7%10)
				y.put(strconv.Itoa(i), i*7%10)
			}
			keys := append(x.due(first), x.due(second)...)
			if want := y.due(max(first, second)); !slices.Equal(keys, want) {
				t.Fatalf("Due(%d) and Due(%d) = %q, Due of the greater one = %q", first, second, keys, want)
			}
		}
	}
}

func TestTheLeastAndTheGreatestExpiry(t *testing.T) {
	x := newTwin(t, math.MaxInt, "b", "a")
	x.put("d", 1)
	x.put("c", 1)
	x.put("e", math.MaxInt-1)
	x.due(0)
	x.due(math.MinInt)
	x.due(1)
	x.due(math.MaxInt - 2)
	x.due(math.MaxInt - 1)
	x.due(math.MaxInt)
}

func TestKeysOfAllKinds(t *testing.T) {
	for seed := range uint64(50) {
		pick := rand.New(rand.NewPCG(seed, 0))
		x := newTwin(t, 9)
		for _, i := range pick.Perm(len(sortedKeys)) {
			x.put(sortedKeys[i], 5)
		}
		if seed%2 == 0 {
			x.remove(sortedKeys[pick.IntN(len(sortedKeys))])
			x.end()
			continue
		}
		if keys := x.due(5); !slices.Equal(keys, sortedKeys) {
			t.Fatalf("Due = %q, want %q", keys, sortedKeys)
		}
	}
}

func TestLongKeys(t *testing.T) {
	x := newTwin(t, 5)
	for _, n := range []int{1 << 18, 255, 65536, 256, 0, 254} {
		for _, key := range []string{strings.Repeat("x", n), strings.Repeat("x", n) + "\x00", strings.Repeat("\x00", n), strings.Repeat("x", n) + "\xff"} {
			x.put(key, 6)
			x.put(key, 4)
			x.put(key, 5)
		}
	}
	x.remove(strings.Repeat("x", 65536))
	x.remove(strings.Repeat("x", 65537))
	x.due(4)
	x.due(5)
}

// TestOrder puts seven keys in every order, with different expiries and with the same one, and removes one of them.
func TestOrder(t *testing.T) {
	for _, order := range orders(7) {
		for gone := range order {
			x, y := newTwin(t, 5), newTwin(t, 5)
			for _, i := range order {
				x.put(strconv.Itoa(i), 8-i)
				y.put(strconv.Itoa(i), 5)
			}
			x.remove(strconv.Itoa(gone))
			x.end()
			y.remove(strconv.Itoa(gone))
			y.end()
		}
	}
}

// TestOrderBehindAnotherExpiry puts five keys in every order, and then one of them again, at any time before, at, between and behind the others.
func TestOrderBehindAnotherExpiry(t *testing.T) {
	for _, order := range orders(5) {
		for again := range order {
			for at := range 13 {
				x := newTwin(t, 5)
				for _, i := range order {
					x.put(strconv.Itoa(i), 2*i+2)
				}
				x.put(strconv.Itoa(again), at)
				x.end()
			}
		}
	}
}

// TestManyKeysAtOnce has many keys with the same expiry, put in ascending order, in descending order, and in others.
func TestManyKeysAtOnce(t *testing.T) {
	const n = 1000
	ascending := make([]string, n)
	for i := range ascending {
		ascending[i] = "key" + strconv.Itoa(i)
	}
	slices.Sort(ascending)
	descending := slices.Clone(ascending)
	slices.Reverse(descending)
	puts := [][]string{ascending, descending}
	for seed := range uint64(5) {
		mixed := slices.Clone(ascending)
		rand.New(rand.NewPCG(seed, 1)).Shuffle(n, func(i, j int) { mixed[i], mixed[j] = mixed[j], mixed[i] })
		puts = append(puts, mixed)
	}
	for _, keys := range puts {
		x := newTwin(t, 5, keys...)
		x.put("before", 4)
		x.put("behind", 6)
		x.due(4)
		if got := x.due(5); !slices.Equal(got, ascending) {
			t.Fatalf("Due(5) = %.300q", got)
		}
		x.due(6)
	}
}

// TestEveryShortSequence makes every sequence of a few calls, of three keys and a few times.
func TestEveryShortSequence(t *testing.T) {
	calls := []func(x *twin){
		func(x *twin) { x.put("a", 1) },
		func(x *twin) { x.put("a", 3) },
		func(x *twin) { x.put("b", 2) },
		func(x *twin) { x.put("b", 3) },
		func(x *twin) { x.put("", 3) },
		func(x *twin) { x.put("a", 0) },
		func(x *twin) { x.remove("a") },
		func(x *twin) { x.remove("b") },
		func(x *twin) { x.due(1) },
		func(x *twin) { x.due(2) },
	}
	const length = 5
	all := 1
	for range length {
		all *= len(calls)
	}
	for sequence := range all {
		x := &twin{t: t, q: New()}
		for range length {
			calls[sequence%len(calls)](x)
			sequence /= len(calls)
		}
		x.end()
	}
}

// TestALongSequence makes calls without a pattern, first mostly Puts, and later mostly Removes and Dues, while time passes.
func TestALongSequence(t *testing.T) {
	for seed := range uint64(4) {
		pick := rand.New(rand.NewPCG(seed, 2))
		x := newTwin(t, 1)
		for i := range 8000 {
			key, now := "key"+strconv.Itoa(pick.IntN(200)), i/20
			switch n := pick.IntN(100); {
			case n < 80-i/120:
				x.put(key, now+pick.IntN(300)-5)
			case n < 97-i/800:
				x.remove(key)
			default:
				x.due(now - 3 + pick.IntN(8))
			}
		}
		x.end()
	}
}

func TestALargeQueue(t *testing.T) {
	const n = 200000
	q := New()
	at := func(i int) int { return i*7919%n/2 + 1 } // two keys at each time
	for i := range n {
		q.Put(strconv.Itoa(i), n-i)
		q.Put(strconv.Itoa(i), at(i))
	}
	for i := range n {
		if i%5 != 0 {
			q.Remove(strconv.Itoa(i))
		}
	}
	if q.Len() != n/5 {
		t.Fatalf("Len = %d, want %d", q.Len(), n/5)
	}
	var before row
	taken := 0
	for now := 0; q.Len() > 0; now += 1000 {
		for _, key := range q.Due(now) {
			i, _ := strconv.Atoi(key)
			r := row{key, at(i)}
			if i%5 != 0 || r.at > now || r.at <= now-1000 || compareRows(before, r) >= 0 {
				t.Fatalf("Due(%d) has %q, which expires at %d, behind %q", now, key, r.at, before.key)
			}
			before = r
			taken++
		}
	}
	if taken != n/5 {
		t.Errorf("%d keys were due, want %d", taken, n/5)
	}
}

// spoil changes all the memory of a result, also its spare capacity.
func spoil(keys []string) {
	keys = keys[:cap(keys)]
	for i := range keys {
		keys[i] = "spoiled" + strconv.Itoa(i)
	}
}

func TestResultsAreCopies(t *testing.T) {
	for _, n := range []int{1, 2, 3, 5, 8, 100} {
		x := newTwin(t, 9)
		for i := range n {
			x.put("first"+strconv.Itoa(i), 5)
			x.put("second"+strconv.Itoa(i), 6)
			x.put("third"+strconv.Itoa(i), 7)
		}
		first, second := x.due(5), x.due(6)
		want := slices.Clone(second)
		spoil(first)
		x.look("a change of a result")
		for i := range n {
			x.put("first"+strconv.Itoa(i), 6)
		}
		third := x.due(6)
		spoil(third)
		x.remove("third0")
		if !slices.Equal(second, want) {
			t.Errorf("a result has become %q, and was %q", second, want)
		}
		spoil(second)
		x.end()
	}
}

// TestKeysAreCopies changes the memory of keys after the calls that they were passed to, and passes keys that are there already in other memory.
func TestKeysAreCopies(t *testing.T) {
	x := newTwin(t, 5)
	for i := range 30 {
		b := []byte("key" + strconv.Itoa(i))
		key := unsafe.String(&b[0], len(b))
		old := strings.Clone(key)
		x.put(key, 0)
		x.remove(key)
		if i%2 == 0 {
			x.put(old, 6)
		}
		x.put(key, 7)
		x.put(key, 7+i%3)
		if string(b) != old {
			t.Errorf("%q became %q", old, b)
		}
		for j := range b {
			b[j] = 'z'
		}
		x.look("a change of the memory of a key")
		x.put(old, 8-i%4)
	}
	x.end()
}

// TestKeysOfResultsAreCopies puts keys that Due has returned once more: the next result has memory of its own.
func TestKeysOfResultsAreCopies(t *testing.T) {
	x := newTwin(t, 5, "a", "bb", "ccc")
	first := x.due(5)
	for _, key := range first {
		x.put(key, 6)
	}
	for i, key := range x.due(6) {
		if unsafe.StringData(key) == unsafe.StringData(first[i]) {
			t.Errorf("the key %q is in two results", key)
		}
	}
}

func TestQueuesShareNothing(t *testing.T) {
	x, y := newTwin(t, 5), newTwin(t, 5)
	for i := range 60 {
		x.put(strconv.Itoa(i), 100-i)
		y.look("a Put to another queue")
		y.put(strconv.Itoa(i), 50+i)
		x.look("a Put to another queue")
		if i%3 == 0 {
			x.remove(strconv.Itoa(i / 2))
			y.look("a Remove from another queue")
		}
	}
	y.due(80)
	x.look("Due of another queue")
	x.end()
	y.end()
	isEmpty(t, New())
}

// TestTheSameCalls makes the same calls on several queues, whose results are equal.
func TestTheSameCalls(t *testing.T) {
	var want []string
	for run := range 5 {
		q := New()
		for i := range 300 {
			q.Put(strconv.Itoa(i*37%90), i*11%50)
			if i%4 == 0 {
				q.Remove(strconv.Itoa(i * 13 % 90))
			}
		}
		got := q.Due(math.MaxInt)
		if run == 0 {
			want = got
		}
		if !slices.Equal(got, want) || len(got) == 0 {
			t.Errorf("Due = %q, and %q before", got, want)
		}
	}
}
