package table

import (
	"bytes"
	"fmt"
	"math"
	"slices"
	"strconv"
	"strings"
	"testing"
	"unsafe"

	"flashcache/api"
	"flashcache/keyhash"
)

// sameHash has keys of which the two of a row have the same hash, all of its 64 bits.
var sameHash = [][2]string{
	{"8yn0iYCKYHlIj4-BwPqk", "GReLUrM4wMqfg9yzV3KQ"},
	{"pFuM83THhM-Qw8FI5FKo", ".jPx7rOtTDteKAwvfOEo"},
	{"6a5x-VbtXk", "f_2k7GG-4v"},
	{"7mohtcOFVz", "c1E51sSEyx"},
	{"gMPflVXtwGDXbIhP73TX", "LtHf1prlU1bCeYZEdqWf"},
	{"7mohtcOFVz behind", "c1E51sSEyx behind"},
}

// growths are numbers of Sets of new keys of which the last one gets new places.
var growths = []int{7, 13, 25, 49, 97}

// crowdBits is how many bits the homes of a crowd have in common: more than a table with a crowd has.
const crowdBits = 12

// entry returns an entry whose numbers differ from those of other entries.
func entry(i int) api.Entry {
	return api.Entry{Seq: i, Off: 2*i + 1, Len: 3 * i, Expiry: 4*i + 2, Hit: i%2 == 1}
}

// named returns n keys that begin with that name.
func named(name string, n int) []string {
	keys := make([]string, n)
	for i := range keys {
		keys[i] = name + strconv.Itoa(i)
	}
	return keys
}

// crowd returns n keys with the same home at every number of bits up to crowdBits, the highest bits of home.
func crowd(n, home int) []string {
	var keys []string
	for i := 0; len(keys) < n; i++ {
		key := strconv.Itoa(i)
		if keyhash.Home(keyhash.Hash([]byte(key)), crowdBits) == home {
			keys = append(keys, key)
		}
	}
	return keys
}

// crowds returns crowds of n keys: with the first home, the last one, those beside the middle, and another one.
func crowds(n int) [][]string {
	return [][]string{crowd(n, 0), crowd(n, 4095), crowd(n, 2048), crowd(n, 2047), crowd(n, 1365)}
}

// oddKeys returns keys of all kinds.
func oddKeys() []string {
	return []string{
		"", " ", "k", "ke", "key", "key ", "keys", "Key", "eky",
		"\x00", "\x00\x00", "\x00\x00\x00", "\x00k", "k\x00", "k\x00k", "k\x00\x00",
		"\x80", "\xff", "\xfe", "\x7f", "\xff\xff", "k\x80", "\xc3", "\xc3\x28", "\xed\xa0\x80", "\xef\xbf\xbd", "\xf8\x88\x80\x80\x80",
		"\u00e9", "e\u0301", "\u4e16\u754c", "\U0001f511",
		"0", "00", "a\nb", "\r\n", "\t",
	}
}

// longKeys returns keys of which many begin with others, or differ from them in one byte.
func longKeys() []string {
	var keys []string
	for _, n := range []int{31, 32, 33, 64, 255, 256, 65536, 1 << 18} {
		keys = append(keys, strings.Repeat("x", n), strings.Repeat("x", n-1)+"y", "y"+strings.Repeat("x", n-1), strings.Repeat("\x00", n))
	}
	return keys
}

// random returns a source of numbers without a visible pattern, the same ones each time.
func random(seed uint32) func(n int) int {
	return func(n int) int {
		seed = seed*1664525 + 1013904223
		return int(seed>>8) % n
	}
}

// short is what an error message shows of a key.
func short(key string) string {
	return fmt.Sprintf("%.40q (%d bytes)", key, len(key))
}

// sound reports an error unless every entry is found where it is, and nowhere else, and the numbers that the table keeps are right.
// It returns, for each key, the first one of the places among which it is.
func sound(t *testing.T, x *Table, what string) map[string]*place {
	t.Helper()
	at := map[string]*place{}
	for _, p := range []*places{&x.fresh, &x.old} {
		used := 0
		for i := range p.list {
			y := &p.list[i]
			if y.state != free {
				used++
			}
			if y.state != taken {
				if *y != (place{state: y.state}) {
					t.Fatalf("after %s: a place without an entry has %+v", what, *y)
				}
				continue
			}
			if y.hash != keyhash.Hash([]byte(y.key)) || p.find(y.hash, y.key) != y || at[y.key] != nil {
				t.Fatalf("after %s: %s is not found at its place, or has two", what, short(y.key))
			}
			if p == &x.old && i < x.next {
				t.Fatalf("after %s: %s was not moved", what, short(y.key))
			}
			at[y.key] = &p.list[0]
		}
		if used != p.used || 4*used > 3*len(p.list) || len(p.list) > 0 && len(p.list) != 1<<p.bits {
			t.Fatalf("after %s: %d of %d places are used, counted %d", what, used, len(p.list), p.used)
		}
	}
	if len(at) != x.count || x.next != 0 && x.next >= len(x.old.list) {
		t.Fatalf("after %s: %d entries, counted %d, and the moving is at %d of %d", what, len(at), x.count, x.next, len(x.old.list))
	}
	return at
}

// twin is a table and, beside it, the list of pairs that it should have, in ascending order of the keys.
type twin struct {
	t    *testing.T
	x    *Table
	list []api.Pair
	most int               // the greatest number of pairs so far
	at   map[string]*place // of sound, after the last call
}

func newTwin(t *testing.T) *twin {
	t.Helper()
	x := &twin{t: t, x: New()}
	x.look("New")
	return x
}

// twinWith returns a twin in which keys were set, each to the entry of its index.
func twinWith(t *testing.T, keys []string) *twin {
	t.Helper()
	x := newTwin(t)
	for i, key := range keys {
		x.set(key, entry(i))
	}
	return x
}

// clone returns a twin whose table has the same places as that of x.
func (x *twin) clone() *twin {
	x.t.Helper()
	table := *x.x
	table.fresh.list = slices.Clone(x.x.fresh.list)
	table.old.list = slices.Clone(x.x.old.list)
	return &twin{t: x.t, x: &table, list: slices.Clone(x.list), most: x.most, at: sound(x.t, &table, "clone")}
}

// index returns where key is in the list, or would be.
func (x *twin) index(key string) (int, bool) {
	return slices.BinarySearchFunc(x.list, key, func(p api.Pair, key string) int {
		return strings.Compare(p.Key, key)
	})
}

func (x *twin) set(key string, e api.Entry) {
	x.t.Helper()
	x.x.Set(key, e)
	i, there := x.index(key)
	if there {
		x.list[i].Entry = e
	} else {
		x.list = slices.Insert(x.list, i, api.Pair{Key: key, Entry: e})
	}
	x.look("Set of " + short(key))
}

func (x *twin) get(key string) {
	x.t.Helper()
	var want api.Entry
	i, there := x.index(key)
	if there {
		want = x.list[i].Entry
	}
	if got, ok := x.x.Get(key); got != want || ok != there {
		x.t.Fatalf("Get(%s) = %+v, %t, want %+v, %t", short(key), got, ok, want, there)
	}
	x.look("Get of " + short(key))
}

func (x *twin) del(key string) {
	x.t.Helper()
	i, there := x.index(key)
	if there {
		x.list = slices.Delete(x.list, i, i+1)
	}
	if got := x.x.Delete(key); got != there {
		x.t.Fatalf("Delete(%s) = %t, want %t", short(key), got, there)
	}
	x.look("Delete of " + short(key))
}

// getAll gets every key that is there, and the keys that are given.
func (x *twin) getAll(others ...string) {
	x.t.Helper()
	for _, p := range x.list {
		x.get(p.Key)
	}
	for _, key := range others {
		x.get(key)
	}
}

// settle makes calls until nothing is left to be moved.
func (x *twin) settle() {
	x.t.Helper()
	for calls := 0; x.isMoving(); calls++ {
		if calls > 1+len(x.list)/8+x.x.Places()/8 {
			x.t.Fatalf("the moving does not come to an end in %d calls", calls)
		}
		x.get("none")
	}
}

func (x *twin) isMoving() bool {
	return len(x.x.old.list) > 0
}

// look checks everything that the table tells after a call, and its places.
func (x *twin) look(what string) {
	x.t.Helper()
	x.most = max(x.most, len(x.list))
	x.lookAtPairs(what)
	x.lookAtWork(what)
}

// lookAtPairs checks Len, Places and Pairs.
func (x *twin) lookAtPairs(what string) {
	x.t.Helper()
	n, places := x.x.Len(), x.x.Places()
	if n != len(x.list) {
		x.t.Fatalf("after %s: Len %d, want %d", what, n, len(x.list))
	}
	if places < 8 || places&(places-1) != 0 || 4*n > 3*places {
		x.t.Fatalf("after %s: %d Places for %d entries", what, places, n)
	}
	if places > max(8, 16*x.most/3) {
		x.t.Fatalf("after %s: %d Places, but there were never more than %d entries", what, places, x.most)
	}
	if pairs := x.x.Pairs(); !slices.Equal(pairs, x.list) {
		x.t.Fatalf("after %s: Pairs are %.500q, want %.500q", what, fmt.Sprint(pairs), fmt.Sprint(x.list))
	}
}

// lookAtWork compares Work with the entries that the last call has moved from the places where they were to others. Places that became old ones are not others.
func (x *twin) lookAtWork(what string) {
	x.t.Helper()
	before := x.at
	x.at = sound(x.t, x.x, what)
	moved, gone := 0, 0
	for key, p := range before {
		switch x.at[key] {
		case p:
		case nil:
			gone++ // it may have been moved before it was deleted
		default:
			moved++
		}
	}
	if work := x.x.Work(); work < moved || work > moved+gone || work < 0 || work > 8 {
		x.t.Fatalf("after %s: Work %d, but %d entries are among other places", what, work, moved)
	}
}

// same reports an error unless the pairs of x are those of want.
func same(t *testing.T, x *Table, want map[string]api.Entry) {
	t.Helper()
	pairs := x.Pairs()
	if len(pairs) != len(want) || x.Len() != len(want) {
		t.Fatalf("%d Pairs, Len %d, want %d", len(pairs), x.Len(), len(want))
	}
	for i, p := range pairs {
		if e, there := want[p.Key]; !there || e != p.Entry || i > 0 && p.Key <= pairs[i-1].Key {
			t.Fatalf("the pair %d is %+v, want %+v", i, p, e)
		}
	}
}

// isEmpty reports an error unless x is a table without entries.
func isEmpty(t *testing.T, x *Table) {
	t.Helper()
	numbers := func() {
		t.Helper()
		if x.Len() != 0 || x.Places() != 8 || x.Work() != 0 || len(x.Pairs()) != 0 {
			t.Errorf("Len %d, Places %d, Work %d, Pairs %v", x.Len(), x.Places(), x.Work(), x.Pairs())
		}
	}
	numbers()
	for _, key := range []string{"", "k", "\x00", "key"} {
		if e, ok := x.Get(key); ok || e != (api.Entry{}) {
			t.Errorf("Get(%q) = %+v, %t", key, e, ok)
		}
		if x.Delete(key) {
			t.Errorf("Delete(%q) = true", key)
		}
		numbers()
	}
}

func TestNewTable(t *testing.T) {
	isEmpty(t, New())
}

// TestTheZeroTable has a table that New has not made: it has no entries either.
func TestTheZeroTable(t *testing.T) {
	isEmpty(t, &Table{})
	var x Table
	for i, key := range named("key", 20) {
		x.Set(key, entry(i))
		sound(t, &x, "Set")
		if e, ok := x.Get(key); !ok || e != entry(i) || x.Len() != i+1 {
			t.Errorf("Get(%q) = %+v, %t, Len %d", key, e, ok, x.Len())
		}
	}
}

func TestANilTable(t *testing.T) {
	var x *Table
	for range 2 {
		x.Set("k", entry(1))
		if e, ok := x.Get("k"); ok || e != (api.Entry{}) {
			t.Errorf("Get = %+v, %t", e, ok)
		}
		if x.Delete("k") {
			t.Error("Delete = true")
		}
		if x.Len() != 0 || x.Places() != 0 || x.Work() != 0 || x.Pairs() != nil {
			t.Errorf("Len %d, Places %d, Work %d, Pairs %v", x.Len(), x.Places(), x.Work(), x.Pairs())
		}
	}
}

func TestExampleOfTheChapter(t *testing.T) {
	x := twinWith(t, named("key", 6))
	if n := x.x.Places(); n != 8 {
		t.Errorf("%d Places after 6 Sets", n)
	}
	x.set("another key", entry(6))
	if n := x.x.Places(); n < 16 {
		t.Errorf("%d Places after 7 Sets", n)
	}
	x.getAll("none")
}

func TestSet(t *testing.T) {
	x := newTwin(t)
	for i := range 3 {
		x.set("k", entry(i))
		if n := x.x.Len(); n != 1 {
			t.Errorf("Len %d after %d Sets of a key", n, i+1)
		}
		x.get("k")
	}
	x.set("l", entry(3))
	x.set("k", entry(4))
	x.set("l", entry(4))
	x.getAll("m", "", "kl")
}

func TestDelete(t *testing.T) {
	x := newTwin(t)
	x.del("k")
	x.set("k", entry(1))
	x.set("l", entry(2))
	x.del("m")
	x.del("k")
	x.del("k")
	x.getAll("k", "m")
	x.set("k", entry(3)) // again, behind its Delete
	x.getAll("m")
	x.del("l")
	x.del("k")
	x.getAll("k", "l", "m")
	x.del("k")
}

func TestKeysOfAllKinds(t *testing.T) {
	for _, keys := range [][]string{oddKeys(), longKeys()} {
		x := newTwin(t)
		for i, key := range keys {
			x.get(key)
			x.del(key)
			x.set(key, entry(i))
			x.get(key)
		}
		x.getAll()
		for i := 0; i < len(keys); i += 2 {
			x.del(keys[i])
		}
		x.getAll(keys...)
		for i, key := range keys {
			x.set(key, entry(1000+i))
		}
		x.getAll()
		for _, key := range keys {
			x.del(key)
			x.del(key)
		}
		x.getAll(keys...)
	}
}

func TestAKeyOfEveryByte(t *testing.T) {
	x := newTwin(t)
	for i := range 256 {
		x.set(string([]byte{byte(i)}), entry(i))
	}
	x.getAll("", "\x00\x00", "\xc3\xa9")
	if pairs := x.x.Pairs(); len(pairs) != 256 || pairs[0].Key != "\x00" || pairs[128].Key != "\x80" || pairs[255].Key != "\xff" {
		t.Errorf("Pairs are %q", fmt.Sprint(pairs))
	}
}

func TestEntries(t *testing.T) {
	x := newTwin(t)
	x.set("zero", api.Entry{})
	x.get("zero")
	for i, n := range []int{math.MinInt, math.MinInt + 1, -1 << 32, -1, 0, 1, 255, 256, 1<<32 - 1, 1 << 32, 1 << 48, math.MaxInt - 1, math.MaxInt} {
		for k, e := range []api.Entry{{Seq: n}, {Off: n}, {Len: n}, {Expiry: n}, {Hit: n > 0}, {Seq: n, Off: n, Len: n, Expiry: n, Hit: true}} {
			x.set("k", e)
			x.get("k")
			x.set(strconv.Itoa(i)+" "+strconv.Itoa(k), e)
			x.get("zero")
		}
	}
	x.getAll()
	x.set("k", api.Entry{})
	x.get("k")
	x.del("k")
	x.get("k")
}

// TestSameHash has keys that only their bytes tell apart.
func TestSameHash(t *testing.T) {
	for _, keys := range sameHash {
		if keyhash.Hash([]byte(keys[0])) != keyhash.Hash([]byte(keys[1])) {
			t.Fatalf("%q have different hashes", keys)
		}
	}
	for full := range 21 {
		x := twinWith(t, named("key", full))
		for i, keys := range sameHash {
			x.set(keys[0], entry(10*i+1))
			x.get(keys[1])
			x.del(keys[1])
			x.set(keys[1], entry(10*i+2))
			x.get(keys[0])
			x.set(keys[0], entry(10*i+3))
			x.get(keys[1])
		}
		for _, keys := range sameHash {
			x.del(keys[0])
			x.getAll(keys[0])
			x.set(keys[0], entry(7))
			x.del(keys[1])
			x.getAll(keys[1])
			x.del(keys[1])
		}
	}
}

func TestSameHome(t *testing.T) {
	for _, keys := range crowds(60) {
		x := newTwin(t)
		for i, key := range keys {
			x.set(key, entry(i))
			x.get(keys[0])
			x.get(keys[len(keys)-1])
		}
		x.getAll()
		for i := range keys { // from the middle on, so that others stand before and behind
			key := keys[(i+30)%60]
			x.del(key)
			x.del(key)
			x.getAll(key)
		}
	}
}

// TestADeleteInARow deletes each of the keys of a row, while entries are being moved and while not, and sets another one and the same one again.
func TestADeleteInARow(t *testing.T) {
	for _, keys := range crowds(26) {
		for _, n := range []int{5, 6, 7, 12, 13, 24, 25} {
			row := twinWith(t, keys[:n])
			for i, key := range keys[:n] {
				x := row.clone()
				x.del(key)
				x.getAll(key)
				x.set(keys[25], entry(100+i))
				x.getAll(key)
				x.set(key, entry(200+i))
				x.getAll()
				x.del(keys[25])
				x.del(key)
				x.getAll(key, keys[25])
			}
		}
	}
}

// TestRowsAtTheEnd has rows that go on at the first place, where other keys have their home.
func TestRowsAtTheEnd(t *testing.T) {
	first, last := crowd(40, 0), crowd(40, 4095)
	for _, n := range []int{3, 6, 12, 24, 40} {
		for _, rows := range [][2][]string{{first, last}, {last, first}} {
			x := newTwin(t)
			for i := range n {
				x.set(rows[0][i], entry(2*i))
				x.set(rows[1][i], entry(2*i+1))
			}
			x.getAll()
			for i := range n {
				a, b := rows[0][i], rows[1][(7*i+3)%n] // 7*i+3 reaches every key: no n has the factor 7
				x.del(a)
				x.get(b)
				x.del(b)
				x.getAll(a, b)
			}
		}
	}
}

func TestPairs(t *testing.T) {
	x := newTwin(t)
	x.set("one", entry(1))
	if pairs := x.x.Pairs(); !slices.Equal(pairs, []api.Pair{{Key: "one", Entry: entry(1)}}) {
		t.Errorf("Pairs are %v", pairs)
	}
	want := slices.Sorted(slices.Values(slices.Concat(oddKeys(), longKeys())))
	keys := slices.Clone(want)
	for range 2 {
		pairs := twinWith(t, keys).x.Pairs()
		if len(pairs) != len(want) {
			t.Fatalf("%d Pairs, want %d", len(pairs), len(want))
		}
		for i, p := range pairs {
			if p.Key != want[i] || p.Entry != entry(slices.Index(keys, p.Key)) || i > 0 && p.Key <= pairs[i-1].Key {
				t.Errorf("the pair %d has the key %s and %+v, want %s", i, short(p.Key), p.Entry, short(want[i]))
			}
		}
		slices.Reverse(keys)
	}
}

// TestEveryShortSequence has all sequences of a few Sets and Deletes of three keys, behind any number of other entries up to a growth.
func TestEveryShortSequence(t *testing.T) {
	keys := []string{sameHash[2][0], sameHash[2][1], "k"}
	const steps, sequences = 5, 6 * 6 * 6 * 6 * 6
	for full := range 8 {
		for code := range sequences {
			x, want := New(), map[string]api.Entry{}
			for i, key := range named("key", full) {
				x.Set(key, entry(i))
				want[key] = entry(i)
			}
			for i := range steps {
				key := keys[code%3]
				if code/3%2 == 0 {
					x.Set(key, entry(10+i))
					want[key] = entry(10 + i)
				} else {
					_, there := want[key]
					if x.Delete(key) != there {
						t.Fatalf("Delete(%q) = %t", key, !there)
					}
					delete(want, key)
				}
				code /= 6
			}
			sound(t, x, "a short sequence")
			same(t, x, want)
		}
	}
}

// TestALongSequence has calls without a visible pattern, of few keys and of many, in times of many Sets and of many Deletes.
func TestALongSequence(t *testing.T) {
	for seed, keys := range [][]string{named("key", 4), named("", 20), named("another key ", 300), slices.Concat(crowds(20)...), oddKeys()} {
		x := newTwin(t)
		next := random(uint32(seed))
		for i := range 4000 {
			key := keys[next(len(keys))]
			sets := []int{8, 5, 2}[i/400%3] // of the 10 calls that are no Get
			switch n := next(14); {
			case n < sets:
				x.set(key, entry(i))
			case n < 10:
				x.del(key)
			default:
				x.get(key)
			}
		}
		x.getAll(keys...)
	}
}

func TestPlacesAtEveryNumberOfEntries(t *testing.T) {
	for _, keys := range [][]string{named("key", 400), crowd(100, 4095)} {
		x := newTwin(t)
		for i, key := range keys {
			before := x.x.Places()
			x.set(key, entry(i))
			if after, growth := x.x.Places(), 4*(i+1) > 3*before; growth && after <= before || !growth && after != before {
				t.Errorf("%d Places before the Set %d, %d behind it", before, i+1, after)
			}
		}
		for _, key := range keys {
			x.del(key)
		}
	}
}

// TestSetsAndDeletesInTurns replaces an entry by another one again and again: the places do not become more and more.
func TestSetsAndDeletesInTurns(t *testing.T) {
	for _, full := range []int{1, 2, 3, 5, 6, 7, 12, 13, 24, 25, 48, 95} {
		for _, deleteFirst := range []bool{true, false} {
			keys := named("key", full)
			x := twinWith(t, keys)
			for i := range 1000 {
				key := "key" + strconv.Itoa(full+i)
				if deleteFirst {
					x.del(keys[i%full])
				}
				x.set(key, entry(i))
				if !deleteFirst {
					x.del(keys[i%full])
				}
				keys[i%full] = key
			}
			x.getAll("key0")
		}
	}
}

// TestOneKeyInTurns sets and deletes the same key again and again, behind any number of others.
func TestOneKeyInTurns(t *testing.T) {
	for full := range 30 {
		x := twinWith(t, named("key", full))
		for i := range 200 {
			x.set("k", entry(i))
			x.get("k")
			x.del("k")
			x.get("k")
		}
		x.getAll()
	}
}

func TestAllDeletedAndOthersSet(t *testing.T) {
	for _, n := range []int{1, 6, 7, 50, 100} {
		x := newTwin(t)
		for round := range 6 {
			keys := named("round "+strconv.Itoa(round)+" key ", n)
			for i, key := range keys {
				x.set(key, entry(i))
			}
			x.getAll("round 0 key 0")
			for _, key := range keys {
				x.del(key)
			}
			x.getAll(keys...)
		}
	}
}

// TestTheMovingComesToAnEnd moves all entries with calls of one kind.
func TestTheMovingComesToAnEnd(t *testing.T) {
	for _, n := range growths {
		keys := named("key", n)
		for kind, call := range []func(x *twin, i int){
			func(x *twin, i int) { x.get("none") },
			func(x *twin, i int) { x.get(keys[i%n]) },
			func(x *twin, i int) { x.del("none") },
			func(x *twin, i int) { x.set(keys[i%n], entry(i)) },
			func(x *twin, i int) { x.set("new "+strconv.Itoa(i), entry(i)) },
			func(x *twin, i int) { x.del("new " + strconv.Itoa(i)) },
		} {
			x := twinWith(t, keys)
			places, sum, calls := x.x.Places(), 0, 0
			for ; x.isMoving() && calls < n; calls++ {
				call(x, calls)
				sum += x.x.Work()
			}
			if sum != n-1 || calls > 4+n/4 { // all but the one that was set last
				t.Errorf("calls of the kind %d moved %d of %d entries in %d calls", kind, sum, n-1, calls)
			}
			for range 3 {
				x.get("none")
				if x.x.Work() != 0 || x.x.Places() != places {
					t.Errorf("Work %d and %d Places behind the end, want %d", x.x.Work(), x.x.Places(), places)
				}
			}
			x.getAll(keys...)
		}
	}
}

// TestWorkIsThatOfTheLastCall has calls that leave Work as it is, between calls that do not.
func TestWorkIsThatOfTheLastCall(t *testing.T) {
	x := twinWith(t, named("key", 49))
	x.get("none")
	for range 2 {
		if x.x.Pairs(); x.x.Len() != 49 || x.x.Places() != 128 || x.x.Work() != 8 {
			t.Errorf("Len %d, Places %d, Work %d", x.x.Len(), x.x.Places(), x.x.Work())
		}
	}
	x.settle()
	if x.x.Work() == 0 {
		t.Error("the last step moved nothing")
	}
	x.set("key0", entry(1))
	if x.x.Work() != 0 {
		t.Errorf("Work %d behind the end", x.x.Work())
	}
}

// growing returns twins at every step of growths, to more places and to as many as before, with the keys that they have or had.
func growing(t *testing.T) (twins []*twin, keys [][]string) {
	t.Helper()
	for _, n := range growths {
		more := named("key", n)
		same := twinWith(t, more[:n-1])
		same.settle()
		for _, key := range more[:2*(n-1)/3] {
			same.del(key)
		}
		places := same.x.Places()
		same.set(more[n-1], entry(n-1))
		if same.x.Places() != places || !same.isMoving() {
			t.Fatalf("%d Places, and %d before", same.x.Places(), places)
		}
		for _, x := range []*twin{twinWith(t, more), same} {
			for ; x.isMoving(); x.get("none") {
				twins, keys = append(twins, x.clone()), append(keys, more)
			}
			twins, keys = append(twins, x), append(keys, more)
		}
	}
	if len(twins) < 40 {
		t.Fatalf("there are only %d steps", len(twins))
	}
	return twins, keys
}

func TestAGetAtEveryStepOfAGrowth(t *testing.T) {
	twins, keys := growing(t)
	for i, x := range twins {
		for _, key := range keys[i] {
			y := x.clone()
			y.get(key)
			y.get(key)
		}
	}
}

// TestADeleteAtEveryStepOfAGrowth would find a second copy of a key once the first one is gone, or when it is moved.
func TestADeleteAtEveryStepOfAGrowth(t *testing.T) {
	twins, keys := growing(t)
	for i, x := range twins {
		for _, key := range keys[i] {
			y := x.clone()
			y.del(key)
			y.get(key)
			y.settle()
			y.get(key)
			y.del(key)
		}
	}
}

// TestASetAtEveryStepOfAGrowth sets keys that are there, keys that are not, and keys that were just deleted.
func TestASetAtEveryStepOfAGrowth(t *testing.T) {
	twins, keys := growing(t)
	for i, x := range twins {
		for k, key := range append(keys[i], "new") {
			for _, deleteFirst := range []bool{false, true} {
				y := x.clone()
				if deleteFirst {
					y.del(key)
				}
				y.set(key, entry(1000+k))
				y.get(key)
				y.settle()
				y.get(key)
				y.del(key)
				y.get(key)
			}
		}
	}
}

// TestNewKeysWhileEntriesAreMoved sets so many of them that the next growth follows.
func TestNewKeysWhileEntriesAreMoved(t *testing.T) {
	twins, _ := growing(t)
	for _, x := range twins {
		for i := range x.x.Places() / 2 {
			x.set("new "+strconv.Itoa(i), entry(i))
		}
		x.getAll("none")
	}
}

func TestALargeTable(t *testing.T) {
	const n = 100000
	x := New()
	for i := range n {
		x.Set("key"+strconv.Itoa(i), entry(i))
		if p := x.Places(); x.Work() < 0 || x.Work() > 8 || 4*x.Len() > 3*p || x.Len() != i+1 {
			t.Fatalf("Len %d, Places %d, Work %d", x.Len(), p, x.Work())
		}
	}
	for i := range n {
		key := "key" + strconv.Itoa(i)
		if e, ok := x.Get(key); !ok || e != entry(i) {
			t.Fatalf("Get(%q) = %+v, %t", key, e, ok)
		}
		if i%3 == 0 && !x.Delete(key) {
			t.Fatalf("Delete(%q) = false", key)
		}
	}
	want := map[string]api.Entry{}
	for i := range n {
		if i%3 != 0 {
			want["key"+strconv.Itoa(i)] = entry(i)
		}
	}
	sound(t, x, "Deletes")
	same(t, x, want)
	if p := x.Places(); p != 1<<18 {
		t.Errorf("%d Places", p)
	}
}

func TestPairsAreCopies(t *testing.T) {
	for _, n := range []int{1, 5, 25, 97} {
		x := twinWith(t, named("key", n))
		first, second := x.x.Pairs(), x.x.Pairs()
		for i := range first {
			if unsafe.StringData(first[i].Key) == unsafe.StringData(second[i].Key) {
				t.Fatalf("%q is in two results", first[i].Key)
			}
			first[i] = api.Pair{Key: "changed", Entry: entry(500)}
		}
		x.lookAtPairs("a change of the result")
		if !slices.Equal(second, x.list) {
			t.Error("a result changes another one")
		}
		x.set("key0", entry(600))
		x.del("key" + strconv.Itoa(n-1))
		x.getAll("changed")
	}
}

// TestKeysAreCopies changes the memory of keys after the calls that they were passed to.
func TestKeysAreCopies(t *testing.T) {
	x := New()
	for i := range 30 {
		b := []byte("key" + strconv.Itoa(i))
		old := bytes.Clone(b)
		key := unsafe.String(&b[0], len(b))
		x.Get(key)
		x.Set(key, entry(i))
		x.Set(key, entry(2*i))
		x.Delete("none")
		if !bytes.Equal(b, old) {
			t.Errorf("%q became %q", old, b)
		}
		copy(b, "xyz")
	}
	want := map[string]api.Entry{}
	for i, key := range named("key", 30) {
		want[key] = entry(2 * i)
	}
	sound(t, x, "changes of keys")
	same(t, x, want)
}

func TestTablesShareNothing(t *testing.T) {
	x, y := newTwin(t), newTwin(t)
	for i, key := range named("key", 50) {
		x.set(key, entry(i))
		y.lookAtPairs("a Set of another table")
		y.set(key, entry(1000+i))
		x.lookAtPairs("a Set of another table")
		if i%3 == 0 {
			x.del(key)
		}
		y.get(key)
	}
	x.getAll("key0")
	y.getAll("none")
	z := newTwin(t)
	z.getAll("key0", "key1")
}
