package replay

import (
	"bytes"
	"fmt"
	"math"
	"math/rand/v2"
	"reflect"
	"slices"
	"strings"
	"testing"

	"flashcache/api"
)

// numbers are numbers of all kinds, also ones that no region or record has. The difference of some of them overflows.
var numbers = []int{math.MinInt, math.MinInt + 1, -1 << 48, -1 << 32, -256, -5, -1, 0, 1, 2, 5, 255, 256, 1 << 32, 1<<48 - 1, 1 << 48, math.MaxInt - 1, math.MaxInt}

// otherKinds are kinds that no record has. The lowest bits of some of them are a kind that records have.
var otherKinds = []int{math.MinInt, math.MinInt + 1, math.MinInt + 2, math.MinInt + 3, -1 << 32, -256, -3, -2, -1, 0, 4, 5, 6, 7, 8, 255, 256, 257, 258, 259, 1 << 16, 1<<32 + 1, 1<<32 + 2, 1<<32 + 3, 1 << 62, math.MaxInt - 1, math.MaxInt}

func value(key string, expiry int) api.Record {
	return api.Record{Kind: api.KindValue, Key: []byte(key), Value: []byte("value of " + key), Expiry: expiry}
}

func tombstone(key string) api.Record {
	return api.Record{Kind: api.KindTombstone, Key: []byte(key)}
}

func flush() api.Record {
	return api.Record{Kind: api.KindFlush}
}

func other(kind int, key string) api.Record {
	return api.Record{Kind: kind, Key: []byte(key), Value: []byte("other"), Expiry: 3}
}

// batch returns records with the offsets 100, 200 and so on, and lengths that are their numbers from 1 on.
func batch(seq int, records ...api.Record) Batch {
	b := Batch{Seq: seq}
	for i, r := range records {
		b.List = append(b.List, api.Found{Off: 100 * (i + 1), Len: i + 1, Record: r})
	}
	return b
}

// at is the pair of the n-th value of the batch with this Seq, as batch makes them.
func at(key string, seq, n, expiry int) api.Pair {
	return api.Pair{Key: key, Entry: api.Entry{Seq: seq, Off: 100 * n, Len: n, Expiry: expiry}}
}

// keysOf returns the keys of all records, in ascending order.
func keysOf(l []Batch) []string {
	var keys []string
	for _, b := range l {
		for _, f := range b.List {
			keys = append(keys, string(f.Record.Key))
		}
	}
	slices.Sort(keys)
	return slices.Compact(keys)
}

// last returns the entry of key that the last record that concerns it leads to, if there is one.
func last(l []Batch, key string) (api.Entry, bool) {
	for i := len(l) - 1; i >= 0; i-- {
		for k := len(l[i].List) - 1; k >= 0; k-- {
			f := l[i].List[k]
			if f.Record.Kind == 3 || f.Record.Kind == 2 && string(f.Record.Key) == key {
				return api.Entry{}, false
			}
			if f.Record.Kind == 1 && string(f.Record.Key) == key {
				return api.Entry{Seq: l[i].Seq, Off: f.Off, Len: f.Len, Expiry: f.Record.Expiry}, true
			}
		}
	}
	return api.Entry{}, false
}

// slowMap asks for each key which record was the last one that concerns it.
func slowMap(l []Batch, now int) []api.Pair {
	var pairs []api.Pair
	for _, key := range keysOf(l) {
		e, ok := last(l, key)
		if ok && (e.Expiry == 0 || e.Expiry > now) {
			pairs = append(pairs, api.Pair{Key: key, Entry: e})
		}
	}
	return pairs
}

// show is what an error message shows of batches.
func show(l []Batch) string {
	var b strings.Builder
	for _, x := range l {
		fmt.Fprintf(&b, "%d:", x.Seq)
		for _, f := range x.List {
			fmt.Fprintf(&b, " %d %.20q %d at %d+%d,", f.Record.Kind, f.Record.Key, f.Record.Expiry, f.Off, f.Len)
		}
		b.WriteString("; ")
	}
	return fmt.Sprintf("%.1000s", b.String())
}

// showPairs is what an error message shows of pairs.
func showPairs(pairs []api.Pair) string {
	var b strings.Builder
	for _, p := range pairs {
		fmt.Fprintf(&b, "%.20q %v ", p.Key, p.Entry)
	}
	return fmt.Sprintf("[%.500s] (%d pairs)", b.String(), len(pairs))
}

// expect ends the test unless Map returns want.
func expect(t *testing.T, l []Batch, now int, want []api.Pair) {
	t.Helper()
	if got := Map(l, now); !slices.Equal(got, want) {
		t.Fatalf("Map([%s], %d) = %s, want %s", show(l), now, showPairs(got), showPairs(want))
	}
}

func expectSlow(t *testing.T, l []Batch, now int) {
	t.Helper()
	expect(t, l, now, slowMap(l, now))
}

// splits calls do with each way to divide the list into batches, none of which is empty, with the Seqs 1, 2 and so on.
func splits(list []api.Found, do func([]Batch)) {
	for set := range 1 << max(0, len(list)-1) {
		l := []Batch{{Seq: 1}}
		for i, f := range list {
			if i > 0 && set>>(i-1)&1 == 1 {
				l = append(l, Batch{Seq: len(l) + 1})
			}
			l[len(l)-1].List = append(l[len(l)-1].List, f)
		}
		do(l)
	}
}

// permute calls do with each order of all[n:], after all[:n].
func permute(all []api.Record, n int, do func([]api.Record)) {
	if n == len(all) {
		do(all)
		return
	}
	for i := n; i < len(all); i++ {
		all[n], all[i] = all[i], all[n]
		permute(all, n+1, do)
		all[n], all[i] = all[i], all[n]
	}
}

// randomBatches returns some batches of records with keys of this list, mostly values. Their Seqs ascend.
func randomBatches(random *rand.Rand, batches, records int, keys []string) []Batch {
	var l []Batch
	for i := range batches {
		var all []api.Record
		for range random.IntN(records + 1) {
			key := keys[random.IntN(len(keys))]
			switch random.IntN(40) {
			case 0:
				all = append(all, flush())
			case 1, 2, 3, 4, 5, 6, 7:
				all = append(all, tombstone(key))
			case 8, 9:
				all = append(all, other(otherKinds[random.IntN(len(otherKinds))], key))
			default:
				all = append(all, value(key, max(0, random.IntN(20)-6)))
			}
		}
		l = append(l, batch(3*i+2, all...))
	}
	return l
}

func TestExample(t *testing.T) {
	records := []api.Record{value("a", 0), value("b", 0), tombstone("a"), value("c", 5)}
	l := []Batch{batch(7, records...)}
	expect(t, l, 5, []api.Pair{at("b", 7, 2, 0)})
	expect(t, l, 4, []api.Pair{at("b", 7, 2, 0), at("c", 7, 4, 5)})
	splits(l[0].List, func(l []Batch) {
		got := Map(l, 5)
		if len(got) != 1 || got[0].Key != "b" || got[0].Entry.Off != 200 {
			t.Errorf("Map([%s], 5) = %v, want b alone", show(l), got)
		}
	})
}

func TestKnownResults(t *testing.T) {
	for _, x := range []struct {
		l    []Batch
		want []api.Pair // for now = 5
	}{
		{nil, nil},
		{[]Batch{batch(7)}, nil},
		{[]Batch{batch(7), batch(8), batch(7)}, nil},
		// one record
		{[]Batch{batch(7, value("a", 0))}, []api.Pair{at("a", 7, 1, 0)}},
		{[]Batch{batch(7), batch(8, value("a", 6)), batch(9)}, []api.Pair{at("a", 8, 1, 6)}},
		{[]Batch{batch(7, tombstone("a"))}, nil},
		{[]Batch{batch(7, flush())}, nil},
		{[]Batch{batch(7, other(0, "a"))}, nil},
		// values of the same key and of other ones
		{[]Batch{batch(7, value("a", 0), value("a", 9))}, []api.Pair{at("a", 7, 2, 9)}},
		{[]Batch{batch(7, value("a", 9), value("a", 0))}, []api.Pair{at("a", 7, 2, 0)}},
		{[]Batch{batch(7, value("c", 0), value("a", 0), value("b", 0))}, []api.Pair{at("a", 7, 2, 0), at("b", 7, 3, 0), at("c", 7, 1, 0)}},
		{[]Batch{batch(7, value("b", 0), value("a", 0), value("b", 8))}, []api.Pair{at("a", 7, 2, 0), at("b", 7, 3, 8)}},
		// tombstones
		{[]Batch{batch(7, value("a", 0), tombstone("a"))}, nil},
		{[]Batch{batch(7, tombstone("a"), value("a", 0))}, []api.Pair{at("a", 7, 2, 0)}},
		{[]Batch{batch(7, value("a", 0), tombstone("b"))}, []api.Pair{at("a", 7, 1, 0)}},
		{[]Batch{batch(7, value("a", 0), tombstone("a"), tombstone("a"), value("a", 0))}, []api.Pair{at("a", 7, 4, 0)}},
		{[]Batch{batch(7, value("a", 0), value("a", 0), tombstone("a"))}, nil},
		{[]Batch{batch(7, value("a", 0), value("b", 0)), batch(8, tombstone("a"))}, []api.Pair{at("b", 7, 2, 0)}},
		// flush markers
		{[]Batch{batch(7, flush(), flush())}, nil},
		{[]Batch{batch(7, value("a", 0), value("b", 0), flush())}, nil},
		{[]Batch{batch(7, value("a", 0), value("b", 0), flush(), value("b", 0), value("c", 0))}, []api.Pair{at("b", 7, 4, 0), at("c", 7, 5, 0)}},
		{[]Batch{batch(7, value("a", 0), value("b", 0)), batch(8, flush()), batch(9, value("b", 0))}, []api.Pair{at("b", 9, 1, 0)}},
		{[]Batch{batch(7, value("a", 0), flush(), value("b", 0), flush(), flush(), tombstone("b"), value("c", 0))}, []api.Pair{at("c", 7, 7, 0)}},
		{[]Batch{batch(7, value("a", 0)), batch(8, flush())}, nil},
		// a value that has expired hides an earlier one, until a later one comes
		{[]Batch{batch(7, value("a", 0), value("a", 5))}, nil},
		{[]Batch{batch(7, value("a", 9)), batch(8, value("a", 1))}, nil},
		{[]Batch{batch(7, value("a", 5), value("a", 6))}, []api.Pair{at("a", 7, 2, 6)}},
		{[]Batch{batch(7, value("a", 0), value("a", 5), tombstone("a"), value("b", 6))}, []api.Pair{at("b", 7, 4, 6)}},
		// the order of the batches counts
		{[]Batch{batch(9, value("a", 0)), batch(2, value("a", 7))}, []api.Pair{at("a", 2, 1, 7)}},
		{[]Batch{batch(9, value("a", 0)), batch(2, tombstone("a"), value("b", 0)), batch(-5, value("c", 0))}, []api.Pair{at("b", 2, 2, 0), at("c", -5, 1, 0)}},
		{[]Batch{batch(9, value("a", 0)), batch(9, value("b", 0), value("a", 8)), batch(9, tombstone("b"))}, []api.Pair{at("a", 9, 2, 8)}},
		{[]Batch{batch(9, value("a", 0)), batch(2, flush()), batch(8, value("b", 0))}, []api.Pair{at("b", 8, 1, 0)}},
	} {
		expect(t, x.l, 5, x.want)
		expectSlow(t, x.l, 5)
	}
}

// TestEveryShortList has all lists of up to five records of these kinds, in one batch and, if they are shorter, in several ones.
func TestEveryShortList(t *testing.T) {
	alphabet := []api.Record{value("a", 0), value("a", 5), value("b", 6), tombstone("a"), tombstone("b"), flush(), other(4, "a")}
	lists := [][]api.Record{nil}
	for n := range 6 {
		var longer [][]api.Record
		for _, list := range lists {
			b := batch(1, list...)
			for _, now := range []int{0, 5, 6} {
				expectSlow(t, []Batch{b}, now)
			}
			if n < 5 {
				splits(b.List, func(l []Batch) { expectSlow(t, l, 5) })
			}
			for _, r := range alphabet {
				longer = append(longer, append(slices.Clone(list), r))
			}
		}
		lists = longer
	}
}

// TestEveryOrder has lists that are longer, in each order.
func TestEveryOrder(t *testing.T) {
	for _, all := range [][]api.Record{
		{value("a", 0), value("b", 5), value("c", 6), tombstone("a"), tombstone("d"), flush(), value("a", 7)},
		{value("", 0), value("a", 0), value("ab", 0), value("b", 0), tombstone("a"), tombstone(""), tombstone("ab")},
		{flush(), flush(), value("a", 0), value("b", 0), tombstone("a"), other(0, "a"), value("a", 4)},
	} {
		permute(all, 0, func(records []api.Record) {
			expectSlow(t, []Batch{batch(7, records[:3]...), batch(2, records[3:]...)}, 5)
		})
	}
}

func TestRecordsOfOtherKinds(t *testing.T) {
	records := []api.Record{value("a", 0), value("b", 9), tombstone("c"), value("c", 0), value("d", 2), tombstone("a"), flush(), value("e", 0), value("f", 9), value("f", 2), value("", 0)}
	for n := range len(records) + 1 {
		b := batch(7, records[:n]...)
		want := slowMap([]Batch{b}, 5)
		for _, kind := range otherKinds {
			for _, key := range []string{"a", "b", "d", "e", "f", "g", ""} {
				for i := range n + 1 {
					more := slices.Insert(slices.Clone(b.List), i, api.Found{Off: 7, Len: 7, Record: other(kind, key)})
					expect(t, []Batch{{Seq: 7, List: more}}, 5, want)
				}
			}
		}
	}
	for _, kind := range otherKinds {
		all := Batch{Seq: 7, List: slices.Repeat(batch(7, other(kind, "a"), other(kind, ""), other(kind, "b")).List, 20)}
		expect(t, []Batch{all}, 0, nil)
		expect(t, []Batch{all, batch(8, value("a", 0)), all}, 0, []api.Pair{at("a", 8, 1, 0)})
	}
}

// TestFieldsWithoutMeaning has tombstones and flush markers with values, expiries and keys, and values of all lengths.
func TestFieldsWithoutMeaning(t *testing.T) {
	for _, n := range append([]int{3, 4, 6}, numbers...) {
		grave := api.Record{Kind: api.KindTombstone, Key: []byte("a"), Value: []byte("x"), Expiry: n}
		marker := api.Record{Kind: api.KindFlush, Key: []byte("c"), Value: []byte("x"), Expiry: n}
		expect(t, []Batch{batch(7, value("a", 0), value("b", 0), grave)}, 5, []api.Pair{at("b", 7, 2, 0)})
		expect(t, []Batch{batch(7, value("a", 0), value("c", 0), marker)}, 5, nil)
		expect(t, []Batch{batch(7, value("a", 0), marker, value("b", 0))}, 5, []api.Pair{at("b", 7, 3, 0)})
		expect(t, []Batch{{Seq: 7, List: []api.Found{{Off: 1, Len: 2, Record: value("a", 0)}, {Off: n, Len: n, Record: grave}}}}, 5, nil)
		expect(t, []Batch{{Seq: 7, List: []api.Found{{Off: 1, Len: 2, Record: value("a", 0)}, {Off: n, Len: n, Record: marker}}}}, 5, nil)
	}
	for _, n := range []int{0, 1, 65536, 65537, 1 << 20} {
		r := api.Record{Kind: api.KindValue, Key: []byte("a"), Value: make([]byte, n)}
		expect(t, []Batch{batch(7, r)}, 5, []api.Pair{at("a", 7, 1, 0)})
	}
}

// ascending returns keys of all kinds, in ascending order of their bytes.
func ascending() []string {
	long := strings.Repeat("x", 254)
	return []string{
		"", "\x00", "\x00\x00", "\x00a", "\n", " ", "A", "Key",
		"a", "a\x00", "a ", "aa", "ab", "a\x7f", "a\x80", "a\xff", "a\xff\xff", "b",
		"e\u0301", "k", "ke", "key", "key ", "keys",
		long, long + "\x00", long + "w", long + "x", long + "xx", long + long, long + "y", long + "\xff",
		"\x7f", "\x80", "\x80\x00", "\xc3\x28", "\u00e9", "\xed\xa0\x80", "\xef\xbf\xbd", "\U0001f511",
		"\xff", "\xff\x00", "\xff\xff", strings.Repeat("\xff", 255), strings.Repeat("\xff", 65536),
	}
}

// TestKeys has each key's record at a place of its own, and then removes and replaces each key alone.
func TestKeys(t *testing.T) {
	random := rand.New(rand.NewPCG(1, 2))
	keys := ascending()
	for range 20 {
		records := make([]api.Record, len(keys))
		var want []api.Pair
		for i, place := range random.Perm(len(keys)) {
			records[place] = value(keys[i], 0)
			want = append(want, at(keys[i], 7, place+1, 0))
		}
		expect(t, []Batch{batch(7, records...)}, 5, want)
		for i, key := range keys {
			l := []Batch{batch(7, records...), batch(8, tombstone(key))}
			expect(t, l, 5, slices.Delete(slices.Clone(want), i, i+1))
			l[1] = batch(8, value(key, 9))
			replaced := slices.Clone(want)
			replaced[i] = at(key, 8, 1, 9)
			expect(t, l, 5, replaced)
		}
	}
}

// TestKeysOfEveryByte has keys that are equal up to their last byte, or from the second one on, with descending bytes in the list.
func TestKeysOfEveryByte(t *testing.T) {
	for _, around := range [][2]string{{"", ""}, {"k", ""}, {"", "k"}, {strings.Repeat("k", 254), ""}, {"", strings.Repeat("k", 254)}, {"\xff\x00", "\x00\xff"}} {
		var records []api.Record
		var want []api.Pair
		for i := range 256 {
			down := around[0] + string([]byte{byte(255 - i)}) + around[1]
			up := around[0] + string([]byte{byte(i)}) + around[1]
			records = append(records, value(down, 0))
			want = append(want, at(up, 7, 256-i, 0))
		}
		expect(t, []Batch{batch(7, records...)}, 5, want)
		for _, i := range []int{0, 1, 127, 128, 254, 255} {
			rest := slices.Delete(slices.Clone(want), i, i+1)
			expect(t, []Batch{batch(7, records...), batch(8, tombstone(want[i].Key))}, 5, rest)
		}
	}
}

func TestEmptyKeys(t *testing.T) {
	none := []byte("key")[:0]
	for _, a := range [][]byte{nil, {}, none} {
		for _, b := range [][]byte{nil, {}, none} {
			set := api.Record{Kind: api.KindValue, Key: a}
			again := api.Record{Kind: api.KindValue, Key: b, Expiry: 6}
			grave := api.Record{Kind: api.KindTombstone, Key: b}
			expect(t, []Batch{batch(7, set, value("a", 0))}, 5, []api.Pair{at("", 7, 1, 0), at("a", 7, 2, 0)})
			expect(t, []Batch{batch(7, set, again)}, 5, []api.Pair{at("", 7, 2, 6)})
			expect(t, []Batch{batch(7, set, value("\x00", 0), grave)}, 5, []api.Pair{at("\x00", 7, 2, 0)})
			expect(t, []Batch{batch(7, grave, set)}, 5, []api.Pair{at("", 7, 2, 0)})
		}
	}
}

// TestEntries has entries with all numbers, for times at which none of them has expired.
func TestEntries(t *testing.T) {
	for _, seq := range numbers {
		for _, off := range numbers {
			for _, n := range numbers {
				r := value("a", off^n)
				l := []Batch{{Seq: seq, List: []api.Found{{Off: off, Len: n, Record: r}}}}
				e := api.Entry{Seq: seq, Off: off, Len: n, Expiry: off ^ n}
				if e.Expiry != math.MinInt {
					expect(t, l, math.MinInt, []api.Pair{{Key: "a", Entry: e}})
				}
			}
		}
	}
}

func TestExpiries(t *testing.T) {
	for _, expiry := range append([]int{3, 4, 6}, numbers...) {
		for _, now := range append([]int{3, 4, 6}, numbers...) {
			l := []Batch{batch(7, value("a", expiry), value("b", 0))}
			want := []api.Pair{at("a", 7, 1, expiry), at("b", 7, 2, 0)}
			if expiry != 0 && expiry <= now {
				want = want[1:]
			}
			expect(t, l, now, want)
		}
	}
	for _, x := range []struct {
		expiry, now int
		want        bool
	}{
		{0, 0, true}, {0, 5, true}, {0, -5, true}, {0, math.MinInt, true}, {0, math.MaxInt, true},
		{5, 4, true}, {5, 5, false}, {5, 6, false}, {1, 0, true}, {1, 1, false}, {1, -1, true},
		{-1, 0, false}, {-1, -1, false}, {-1, -2, true}, {-1, math.MaxInt, false}, {-1, math.MinInt, true},
		{math.MaxInt, math.MaxInt - 1, true}, {math.MaxInt, math.MaxInt, false}, {math.MaxInt, math.MinInt, true},
		{math.MinInt, math.MinInt, false}, {math.MinInt, math.MaxInt, false}, {math.MinInt, 0, false},
	} {
		var want []api.Pair
		if x.want {
			want = []api.Pair{at("a", 7, 1, x.expiry)}
		}
		expect(t, []Batch{batch(7, value("a", x.expiry))}, x.now, want)
	}
}

// TestExpiredAmongOthers has every set of expired keys among six.
func TestExpiredAmongOthers(t *testing.T) {
	for set := range 1 << 6 {
		var records []api.Record
		var want []api.Pair
		for i, key := range []string{"a", "b", "c", "d", "e", "f"} {
			if set>>i&1 == 1 {
				records = append(records, value(key, 1+i%5))
				continue
			}
			expiry := 6 * (i % 2)
			records = append(records, value(key, expiry))
			want = append(want, at(key, 7, i+1, expiry))
		}
		expect(t, []Batch{batch(7, records...)}, 5, want)
	}
}

// TestSeqs has batches with all Seqs, also with equal ones: those of the batches are found in the entries, and nothing else comes of them.
func TestSeqs(t *testing.T) {
	for _, a := range numbers {
		for _, b := range numbers {
			for _, c := range numbers {
				l := []Batch{batch(a, value("a", 0), value("b", 0), value("c", 0)), batch(b, value("b", 0), tombstone("c")), batch(c, value("d", 0), value("a", 0))}
				expect(t, l, 5, []api.Pair{at("a", c, 2, 0), at("b", b, 1, 0), at("d", c, 1, 0)})
				l[1].List[0].Record = flush()
				expect(t, l, 5, []api.Pair{at("a", c, 2, 0), at("d", c, 1, 0)})
			}
		}
	}
}

// TestFlush has flush markers at every place: what lies ahead of the last one does not matter.
func TestFlush(t *testing.T) {
	random := rand.New(rand.NewPCG(3, 4))
	for range 100 {
		l := randomBatches(random, 4, 12, []string{"", "a", "b", "c", "ab"})
		for i := range l {
			for k := range len(l[i].List) + 1 {
				marked := slices.Clone(l)
				marked[i].List = slices.Insert(slices.Clone(l[i].List), k, api.Found{Off: 3, Len: 16, Record: flush()})
				rest := slices.Clone(l[i:])
				rest[0].List = rest[0].List[k:]
				expect(t, marked, 5, Map(rest, 5))
				expectSlow(t, marked, 5)
			}
		}
	}
}

// TestWithoutTheOldestBatches leaves exactly the entries that lie in the other batches.
func TestWithoutTheOldestBatches(t *testing.T) {
	random := rand.New(rand.NewPCG(5, 6))
	for round := range 300 {
		l := randomBatches(random, 6, 10+round%20, []string{"", "a", "b", "c", "ab", "abc", "k", "l"})
		all := Map(l, 5)
		for k := range l {
			expect(t, l[k:], 5, slices.DeleteFunc(slices.Clone(all), func(p api.Pair) bool {
				return p.Entry.Seq < l[k].Seq
			}))
		}
		expect(t, l[len(l):], 5, nil)
	}
}

// TestLaterTimes removes exactly the entries whose time has come in between.
func TestLaterTimes(t *testing.T) {
	random := rand.New(rand.NewPCG(7, 8))
	for round := range 300 {
		l := randomBatches(random, 3, 10+round%20, []string{"", "a", "b", "c", "ab", "abc", "k", "l"})
		pairs := Map(l, math.MinInt)
		for now := -1; now < 16; now++ {
			pairs = slices.DeleteFunc(pairs, func(p api.Pair) bool {
				return p.Entry.Expiry == now && now != 0
			})
			expect(t, l, now, pairs)
		}
		expect(t, l, math.MaxInt, pairs)
	}
}

func TestRandomBatches(t *testing.T) {
	random := rand.New(rand.NewPCG(9, 10))
	for round := range 2000 {
		var keys []string
		for i := range 1 + random.IntN(30) {
			keys = append(keys, strings.Repeat("k", random.IntN(3))+string([]byte{byte(random.IntN(256))})+fmt.Sprint(i))
		}
		l := randomBatches(random, random.IntN(6), 1+round%60, keys)
		for i := range l {
			l[i].Seq = numbers[random.IntN(len(numbers))]
		}
		expectSlow(t, l, random.IntN(20)-5)
	}
}

// TestManyRecords has hundreds of keys, the first ones of them thousands of times.
func TestManyRecords(t *testing.T) {
	random := rand.New(rand.NewPCG(11, 12))
	for _, flushes := range []int{0, 1, 20} {
		var l []Batch
		for i := range 40 {
			var records []api.Record
			for range 1000 {
				key := fmt.Sprint("key ", random.IntN(1+random.IntN(1+random.IntN(800))))
				if random.IntN(3) == 0 {
					records = append(records, tombstone(key))
				} else {
					records = append(records, value(key, random.IntN(9)))
				}
			}
			l = append(l, batch(i+1, records...))
		}
		for range flushes {
			l[random.IntN(30)].List[random.IntN(1000)].Record = flush()
		}
		for _, now := range []int{0, 4, 8} {
			expectSlow(t, l, now)
		}
		if len(Map(l, 0)) < 200 {
			t.Error("too few keys are left to tell anything:", len(Map(l, 0)))
		}
	}
}

// TestManyKeys sets, replaces and removes many keys one after the other, so that the index grows, and is nearly empty in between.
func TestManyKeys(t *testing.T) {
	const n = 20000
	var set, replace, remove Batch
	set.Seq, replace.Seq, remove.Seq = 1, 2, 3
	var first, second []api.Pair
	for i := range n {
		key := fmt.Sprintf("%05d", i)
		set.List = append(set.List, api.Found{Off: i, Len: 1, Record: value(key, 0)})
		replace.List = append(replace.List, api.Found{Off: 2 * i, Len: 2, Record: value(key, i%2*9)})
		remove.List = append(remove.List, api.Found{Off: 3 * i, Len: 3, Record: tombstone(key)})
		first = append(first, api.Pair{Key: key, Entry: api.Entry{Seq: 1, Off: i, Len: 1}})
		second = append(second, api.Pair{Key: key, Entry: api.Entry{Seq: 2, Off: 2 * i, Len: 2, Expiry: i % 2 * 9}})
	}
	slices.Reverse(replace.List)
	expect(t, []Batch{set}, 5, first)
	expect(t, []Batch{set, replace}, 5, second)
	expect(t, []Batch{set, replace, remove}, 5, nil)
	expect(t, []Batch{replace, remove, set}, 5, first)
	expect(t, []Batch{set, remove, replace}, 8, second)
	expect(t, []Batch{replace, batch(4, flush()), set}, 5, first)
	expect(t, []Batch{replace, set, batch(4, flush())}, 5, nil)
	remove.List = remove.List[:n-1]
	expect(t, []Batch{set, remove}, 5, first[n-1:])
	expect(t, []Batch{set, remove, replace}, 9, slices.DeleteFunc(second, func(p api.Pair) bool {
		return p.Entry.Expiry == 9
	}))
}

// TestTurns sets and removes the same few keys again and again.
func TestTurns(t *testing.T) {
	var records []api.Record
	for i := range 5000 {
		key := string([]byte{byte('a' + i%3)})
		records = append(records, value(key, 0), tombstone(key))
		if i%100 == 99 {
			records = append(records, flush())
		}
	}
	expect(t, []Batch{batch(7, records...)}, 5, nil)
	expect(t, []Batch{batch(7, append(records, value("b", 0))...)}, 5, []api.Pair{at("b", 7, len(records)+1, 0)})
	expect(t, []Batch{batch(7, records[:len(records)-2]...)}, 5, []api.Pair{at("b", 7, len(records)-2, 0)})
}

// crowded returns batches that lie within longer memory, as do their lists, keys and values, and the memory of all of them: whole has all batches, lists all records, and text all bytes.
func crowded() (l, whole []Batch, lists []api.Found, text []byte) {
	text = bytes.Repeat([]byte("keys, and values with spare capacity; "), 12)
	for i := range 60 {
		key, end := 7*i, 7*i+i%4
		r := api.Record{Kind: api.KindValue, Key: text[key:end], Value: text[end : end+2], Expiry: i % 9}
		switch {
		case i == 7:
			r.Kind = api.KindFlush
		case i%9 == 1:
			r.Kind = api.KindTombstone
		case i%9 == 2:
			r.Kind = 4
		}
		lists = append(lists, api.Found{Off: 10 * i, Len: 10, Record: r})
	}
	whole = []Batch{{Seq: -1, List: lists[:2]}, {Seq: 4, List: lists[5:20]}, {Seq: 4, List: lists[20:20]}, {Seq: 2, List: lists[23:50]}, {Seq: 9, List: lists[55:]}}
	return whole[1:4], whole, lists, text
}

func TestBatchesStayAsTheyAre(t *testing.T) {
	l, whole, lists, text := crowded()
	_, wholeBefore, listsBefore, textBefore := crowded()
	for _, x := range []struct{ now, least int }{{math.MinInt, 8}, {0, 8}, {4, 4}, {math.MaxInt, 1}} {
		got := Map(l, x.now)
		if len(got) < x.least {
			t.Errorf("only %d pairs are left for now = %d", len(got), x.now)
		}
		clear(got[:cap(got)])
		if !bytes.Equal(text, textBefore) {
			t.Error("Map changes a key or a value, or the memory around it")
		}
		if !reflect.DeepEqual(lists, listsBefore) {
			t.Error("Map changes a list, or the memory around it")
		}
		if !reflect.DeepEqual(whole, wholeBefore) {
			t.Error("Map changes the batches, or the memory around them")
		}
		expectSlow(t, l, x.now)
	}
}

// TestResultsAreApart spoils a result, and the batches that it was made of, and looks at the others.
func TestResultsAreApart(t *testing.T) {
	for _, now := range []int{0, 4} {
		l, whole, lists, text := crowded()
		want := slowMap(l, now)
		first, second := Map(l, now), Map(l, now)
		clear(first[:cap(first)])
		if !slices.Equal(second, want) {
			t.Error("two results share memory")
		}
		for i := range text {
			text[i] = '?'
		}
		if !slices.Equal(second, want) {
			t.Error("a pair changes with the bytes of a key")
		}
		clear(lists)
		clear(whole)
		if !slices.Equal(second, want) {
			t.Error("a pair changes with the batches")
		}
		clear(second[:cap(second)])
		l, _, _, _ = crowded()
		expect(t, l, now, want)
	}
}

// TestKeysThatChange has records whose keys lie in the same bytes, which change between two calls.
func TestKeysThatChange(t *testing.T) {
	key := []byte("abc")
	l := []Batch{batch(7, api.Record{Kind: api.KindValue, Key: key}, api.Record{Kind: api.KindValue, Key: key[:2]})}
	before := Map(l, 0)
	copy(key, "xyz")
	after := Map(l, 0)
	copy(key, "???")
	if want := []api.Pair{at("ab", 7, 2, 0), at("abc", 7, 1, 0)}; !slices.Equal(before, want) {
		t.Errorf("the pairs before the change are %v", before)
	}
	if want := []api.Pair{at("xy", 7, 2, 0), at("xyz", 7, 1, 0)}; !slices.Equal(after, want) {
		t.Errorf("the pairs after the change are %v", after)
	}
}

func TestNilAndEmptyLists(t *testing.T) {
	spare := []Batch{batch(1, value("s", 0)), batch(2, value("t", 0))}
	for _, l := range [][]Batch{nil, {}, spare[1:1], spare[2:]} {
		for _, now := range numbers {
			expect(t, l, now, nil)
		}
	}
	for _, list := range [][]api.Found{nil, {}, spare[0].List[:0], spare[0].List[1:]} {
		none := Batch{Seq: 5, List: list}
		for _, now := range numbers {
			expect(t, []Batch{none}, now, nil)
			expect(t, []Batch{none, none, none}, now, nil)
		}
		expect(t, []Batch{none, batch(7, value("a", 0)), none, batch(8, value("b", 6)), none}, 5, []api.Pair{at("a", 7, 1, 0), at("b", 8, 1, 6)})
	}
	for _, text := range [][]byte{nil, {}, []byte("value")[:0]} {
		l := []Batch{batch(7, api.Record{Kind: api.KindValue, Key: []byte("a"), Value: text}, api.Record{Kind: api.KindFlush, Key: text, Value: text}, api.Record{Kind: api.KindValue, Value: text})}
		expect(t, l, 5, []api.Pair{at("", 7, 3, 0)})
	}
}

// TestNothingIsKept repeats calls in turns: each result depends on the arguments alone.
func TestNothingIsKept(t *testing.T) {
	full := []Batch{batch(7, value("a", 0), value("b", 5)), batch(8, value("c", 6))}
	for range 3 {
		expect(t, full, 4, []api.Pair{at("a", 7, 1, 0), at("b", 7, 2, 5), at("c", 8, 1, 6)})
		expect(t, full, 6, []api.Pair{at("a", 7, 1, 0)})
		expect(t, nil, 0, nil)
		expect(t, []Batch{batch(9, tombstone("a"))}, 0, nil)
		expect(t, []Batch{batch(9, flush())}, 0, nil)
		expect(t, []Batch{batch(9, value("b", 0))}, 0, []api.Pair{at("b", 9, 1, 0)})
	}
}
