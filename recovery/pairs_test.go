package recovery

import (
	"bytes"
	"fmt"
	"slices"
	"strings"
	"testing"

	"flashcache/api"
	"flashcache/flashdev"
	"flashcache/frame"
	"flashcache/record"
)

// expectPairs ends the test unless Load returns these pairs for that time, and all other results are those of slowLoad.
func expectPairs(t *testing.T, what string, d *flashdev.Device, now int, want ...api.Pair) {
	t.Helper()
	if s := expectSlow(t, what, d, now); !slices.Equal(s.Pairs, want) {
		t.Fatalf("%s: Load(.., %d) returns %s, want %s", what, now, show(s), show(State{Pairs: want}))
	}
}

// raw writes the header of a region and then this stream, in frames; the last one is filled up with zeros.
func raw(t *testing.T, d *flashdev.Device, r api.Region, stream []byte) {
	t.Helper()
	put(t, d, r)
	i := first(r.Layout, r.Header.Slot)
	for part := range slices.Chunk(stream, 59) {
		i++
		b, e := frame.Encode(api.FrameData, r.Header.Seq, i, part)
		overwrite(t, d, i, b, e)
	}
}

// streamOf returns the bytes of records, one behind the other, as they are in a region.
func streamOf(t *testing.T, r api.Region, records ...api.Record) []byte {
	t.Helper()
	var stream []byte
	for _, x := range records {
		b, e := record.Encode(r.Layout.Version, r.Header.Seq, len(stream), x)
		if e != api.OK {
			t.Fatalf("no record to test with: error %d", e)
		}
		stream = append(stream, b...)
	}
	return stream
}

// TestPairs has results worked out by hand, for both formats. The regions lie in their slots in another order than in the log.
func TestPairs(t *testing.T) {
	for version := 1; version <= 2; version++ {
		l := layout(3, version, 4, 6)
		for _, x := range []struct {
			now   int
			lists [][]api.Record // of the regions with the Seqs 5, 6 and so on
			want  []api.Pair
		}{
			{0, nil, nil},
			{0, [][]api.Record{{}, {}, {}}, nil},
			{0, [][]api.Record{{value("a", "", 0)}}, []api.Pair{pair("a", 5, 0, 17, 0)}},
			{0, [][]api.Record{{value("b", "1", 0), value("a", "22", 7), value("c", "", 0)}}, []api.Pair{pair("a", 5, 18, 19, 7), pair("b", 5, 0, 18, 0), pair("c", 5, 37, 17, 0)}},
			// a later value, in the same region and in a later one
			{0, [][]api.Record{{value("a", "", 0), value("a", "1", 9)}}, []api.Pair{pair("a", 5, 17, 18, 9)}},
			{0, [][]api.Record{{value("a", "", 0)}, {value("a", "1", 9)}}, []api.Pair{pair("a", 6, 0, 18, 9)}},
			{0, [][]api.Record{{value("a", "", 0)}, {value("b", "", 0)}, {value("a", "", 0)}}, []api.Pair{pair("a", 7, 0, 17, 0), pair("b", 6, 0, 17, 0)}},
			{0, [][]api.Record{{value("a", "", 0), sync, value("a", "1", 0)}, {value("b", "", 0), sync, sync, value("c", "", 0)}}, []api.Pair{pair("a", 5, 59, 18, 0), pair("b", 6, 0, 17, 0), pair("c", 6, 59, 17, 0)}},
			// tombstones
			{0, [][]api.Record{{value("a", "", 0), tombstone("a")}}, nil},
			{0, [][]api.Record{{value("a", "", 0), value("b", "", 0)}, {tombstone("a")}}, []api.Pair{pair("b", 5, 17, 17, 0)}},
			{0, [][]api.Record{{tombstone("a")}, {value("a", "", 0)}, {tombstone("b")}}, []api.Pair{pair("a", 6, 0, 17, 0)}},
			{0, [][]api.Record{{value("a", "", 0)}, {}, {tombstone("a")}, {}, {value("a", "", 0)}}, []api.Pair{pair("a", 9, 0, 17, 0)}},
			// flush markers
			{0, [][]api.Record{{value("a", "", 0), value("b", "", 0)}, {flush()}}, nil},
			{0, [][]api.Record{{value("a", "", 0)}, {value("b", "", 0), flush(), value("c", "", 0)}, {value("d", "", 0)}}, []api.Pair{pair("c", 6, 33, 17, 0), pair("d", 7, 0, 17, 0)}},
			{0, [][]api.Record{{flush()}, {flush(), flush()}, {value("a", "", 0)}}, []api.Pair{pair("a", 7, 0, 17, 0)}},
			// expiries: a value that has expired hides an earlier one
			{6, [][]api.Record{{value("a", "", 6), value("b", "", 7), value("c", "", 1), value("d", "", 0)}}, []api.Pair{pair("b", 5, 17, 17, 7), pair("d", 5, 51, 17, 0)}},
			{6, [][]api.Record{{value("a", "", 0)}, {value("a", "", 6)}}, nil},
			{6, [][]api.Record{{value("a", "", 6)}, {value("a", "", 0)}}, []api.Pair{pair("a", 6, 0, 17, 0)}},
			{6, [][]api.Record{{value("a", "", 9)}, {value("a", "", 3)}, {value("b", "", 1<<32-1)}}, []api.Pair{pair("b", 7, 0, 17, 1<<32-1)}},
			{1 << 39, [][]api.Record{{value("a", "", 1<<32-1), value("b", "", 0)}}, []api.Pair{pair("b", 5, 17, 17, 0)}},
		} {
			d := device(t, end(l), stable(1, 0, l))
			for i, list := range x.lists {
				write(t, d, at(l, 5*(i+2)%6, 5+i), list...)
			}
			expectPairs(t, fmt.Sprint(x.lists), d, x.now, x.want...)
		}
	}
}

// TestPairsOfBothFormats has regions of both formats, of which each knows keys of the other one.
func TestPairsOfBothFormats(t *testing.T) {
	home, target := layout(3, 1, 4, 6), layout(4, 2, 8, 5)
	d := device(t, end(target), migrating(5, 0, target, home))
	write(t, d, at(home, 5, 6), value("a", "old", 0), value("b", "old", 1<<32-1), value("c", "old", 0), value("d", "old", 0))
	write(t, d, at(target, 1, 7), tombstone("a"), value("b", "new", 1<<40-1))
	write(t, d, at(home, 0, 8), value("c", "old", 0), value("e", "old", 0))
	write(t, d, at(target, 4, 9), value("e", "new", 0), value("a", "new", 0))
	a, c, D, e := pair("a", 9, 20, 20, 0), pair("c", 8, 0, 20, 0), pair("d", 6, 60, 20, 0), pair("e", 9, 0, 20, 0)
	expectPairs(t, "both formats", d, 0, a, pair("b", 7, 17, 20, 1<<40-1), c, D, e)
	write(t, d, at(target, 3, 10), flush(), value("f", "new", 1<<39), value("g", "new", 1<<39+1))
	expectPairs(t, "a flush marker in format 2", d, 1<<39, pair("g", 10, 36, 20, 1<<39+1))
}

// TestTheTimeOfHeaders has values that have expired at the time of a header, or of the superblock, though not at the one of the call.
func TestTheTimeOfHeaders(t *testing.T) {
	records := []api.Record{value("a", "", 10), value("b", "", 11), value("c", "", 12), value("d", "", 13), value("e", "", 0)}
	all := []api.Pair{pair("a", 5, 0, 17, 10), pair("b", 5, 17, 17, 11), pair("c", 5, 34, 17, 12), pair("d", 5, 51, 17, 13), pair("e", 5, 68, 17, 0)}
	for late := 8; late <= 13; late++ {
		left := all[min(max(0, late-9), 4):]
		super := device(t, end(small), stable(1, late, small))
		write(t, super, at(small, 0, 5), records...)
		own := device(t, end(small), stable(1, 0, small))
		write(t, own, with(at(small, 0, 5), 0, late), records...)
		dead := device(t, end(small), stable(3, 0, small))
		write(t, dead, at(small, 0, 5), records...)
		write(t, dead, with(at(small, 1, 2), 0, late), value("z", "", 0))
		for _, d := range []*flashdev.Device{super, own, dead} {
			for now := range late + 1 {
				expectPairs(t, "a time that is known", d, now, left...)
			}
			expectPairs(t, "a later time", d, 13, all[4])
		}
	}
}

// TestRecordsThatDoNotCount has values, tombstones and flush markers in dead regions, in hidden ones, and in the data of earlier regions of a slot.
func TestRecordsThatDoNotCount(t *testing.T) {
	home, target := layout(3, 1, 4, 6), layout(4, 2, 8, 5)
	d := device(t, end(target), migrating(5, 0, target, home))
	write(t, d, at(home, 0, 6), value("a", "", 0), value("b", "", 0))
	write(t, d, at(target, 2, 10), value("c", "", 0))
	want := []api.Pair{pair("a", 6, 0, 17, 0), pair("b", 6, 17, 17, 0), pair("c", 10, 0, 17, 0)}
	expectPairs(t, "all regions are live", d, 0, want...)
	write(t, d, at(home, 1, 4), value("d", "", 0), flush())
	expectPairs(t, "a dead region", d, 0, want...)
	write(t, d, at(home, 5, 9), flush(), tombstone("a"), value("e", "", 0), value("a", "x", 0))
	expectPairs(t, "a hidden region", d, 0, want...)
	write(t, d, at(home, 2, 10), tombstone("a"), value("f", "", 0))
	expectPairs(t, "a region with the same Seq", d, 0, want...)
	write(t, d, at(home, 3, 7), value("g", "", 0), sync, value("h", "", 0), sync, tombstone("b"))
	expectPairs(t, "a live region", d, 0, append([]api.Pair{want[0], want[2]}, pair("g", 7, 0, 17, 0), pair("h", 7, 59, 17, 0))...)
	write(t, d, at(home, 3, 8), value("i", "", 0))
	expectPairs(t, "the next region of the slot", d, 0, append(want, pair("i", 8, 0, 17, 0))...)
	put(t, d, at(home, 3, 9))
	expectPairs(t, "the next region of the slot, which is empty", d, 0, want...)
}

// TestDamagedEnds cuts a region off at each of its frames: the regions behind it count all the same.
func TestDamagedEnds(t *testing.T) {
	for version := 1; version <= 2; version++ {
		l := layout(3, version, 8, 5)
		before, middle, behind := at(l, 4, 6), at(l, 0, 7), at(l, 2, 8)
		for frames := range 8 {
			d := device(t, end(l), stable(1, 0, l))
			write(t, d, before, value("a", "old", 0), value("b", "old", 0), value("x", "old", 0))
			write(t, d, middle, value("a", strings.Repeat("v", 50), 0), sync, value("b", strings.Repeat("v", 100), 0), tombstone("x"), sync, flush(), sync, value("c", "", 0))
			write(t, d, behind, value("d", "", 0))
			i := first(l, 0) + 1 + frames
			b := sector(d, i)
			b[0] ^= 0x10
			overwrite(t, d, i, b, api.OK)
			a, b0, x, D := pair("a", 6, 0, 20, 0), pair("b", 6, 20, 20, 0), pair("x", 6, 40, 20, 0), pair("d", 8, 0, 17, 0)
			a1, b1, c := pair("a", 7, 0, 67, 0), pair("b", 7, 118, 117, 0), pair("c", 7, 354, 17, 0)
			want := [][]api.Pair{{a, b0, D, x}, {a, b0, D, x}, {a1, b0, D, x}, {a1, b0, D, x}, {a1, b1, D, x}, {a1, b1, D}, {D}, {c, D}}[frames]
			expectPairs(t, fmt.Sprint(frames, " frames are left"), d, 0, want...)
		}
	}
}

// TestStreamsThatAreDamaged has regions whose frames are well, but not their records.
func TestStreamsThatAreDamaged(t *testing.T) {
	for version := 1; version <= 2; version++ {
		l := layout(3, version, 4, 6)
		r, next := at(l, 3, 7), at(l, 0, 8)
		whole := streamOf(t, r, value("a", "1", 0), value("b", "2", 0), value("c", "3", 0), tombstone("a"))
		tail := pair("z", 8, 0, 17, 0)
		a, b, c := pair("a", 7, 0, 18, 0), pair("b", 7, 18, 18, 0), pair("c", 7, 36, 18, 0)
		for i := range whole {
			for _, change := range []byte{1, 0x80, whole[i]} {
				if change == 0 {
					continue
				}
				d := device(t, end(l), stable(1, 0, l))
				stream := bytes.Clone(whole)
				stream[i] ^= change
				raw(t, d, r, stream)
				write(t, d, next, value("z", "", 0))
				want := [][]api.Pair{{tail}, {a, tail}, {a, b, tail}, {a, b, c, tail}}[min(i/18, 3)]
				expectPairs(t, fmt.Sprint("another byte at ", i), d, 0, want...)
			}
		}
		other := at(l, 3, 9)
		d := device(t, end(l), stable(1, 0, l))
		raw(t, d, r, streamOf(t, other, value("a", "", 0)))
		expectPairs(t, "the records of another region", d, 0)
		l.Version = 3 - version
		raw(t, d, r, streamOf(t, at(l, 3, 7), value("a", "", 0)))
		expectPairs(t, "the records of another version", d, 0)
	}
}

// TestEmptyRegions has headers alone, over noise, over zeros, and over the data of earlier regions.
func TestEmptyRegions(t *testing.T) {
	l := layout(3, 2, 4, 6)
	live := []api.Region{at(l, 1, 5), at(l, 0, 6), at(l, 4, 7), at(l, 3, 8)}
	d := device(t, end(l), stable(1, 0, l))
	put(t, d, live...)
	expectLive(t, "over noise", d, live...)
	expectPairs(t, "over noise", d, 0)
	for i := 74; i < end(l); i++ {
		overwrite(t, d, i, nil, api.OK)
	}
	put(t, d, live...)
	expectLive(t, "over zeros", d, live...)
	expectPairs(t, "over zeros", d, 0)
	for i, r := range live {
		r.Header.Seq -= 4
		write(t, d, r, value(string(rune('a'+i)), "", 0), flush())
		r.Header.Seq += 4
		write(t, d, r)
	}
	expectLive(t, "over earlier regions", d, live...)
	expectPairs(t, "over earlier regions", d, 0)
	write(t, d, live[2], value("k", "", 0))
	expectLive(t, "one region is not empty", d, live...)
	expectPairs(t, "one region is not empty", d, 0, pair("k", 7, 0, 17, 0))
}

// TestAFullRegion has records that take all bytes of a region of the greatest size, one of them more than a thousand frames.
func TestAFullRegion(t *testing.T) {
	for version := 1; version <= 2; version++ {
		l := layout(3, version, 2048, 4)
		d := flashdev.New(end(l))
		publish(t, d, stable(1, 0, l))
		key, long := strings.Repeat("k", 255), strings.Repeat("v", 65536)
		left := 2047*59 - (16 + 255 + 65536) - (16 + 254) - 17
		write(t, d, at(l, 2, 5), value(key, long, 0), tombstone(key[:254]), value("a", strings.Repeat("w", left-17), 0), value("b", "", 0))
		write(t, d, at(l, 1, 6), value("c", "", 0))
		expectPairs(t, "a full region", d, 0, pair("a", 5, 65807+270, left, 0), pair("b", 5, 2047*59-17, 17, 0), pair("c", 6, 0, 17, 0), pair(key, 5, 0, 65807, 0))
	}
}

// TestManyPairs has hundreds of keys of all bytes in several regions, which replace and remove one another.
func TestManyPairs(t *testing.T) {
	l := layout(3, 2, 512, 4)
	d := flashdev.New(end(l))
	publish(t, d, stable(1, 0, l))
	var set, replace, remove []api.Record
	var want []api.Pair
	for i := range 256 {
		for k := range 4 {
			key := string([]byte{byte(i), byte(64 * k)})
			set = append(set, value(string([]byte{byte(255 - i), byte(192 - 64*k)}), "first", 0))
			switch (i + k) % 3 {
			case 0:
				remove = append(remove, tombstone(key))
			case 1:
				want = append(want, pair(key, 8, 25*len(replace), 25, i%2*50))
				replace = append(replace, value(key, "replace", i%2*50))
			default:
				want = append(want, pair(key, 7, 23*(4*(255-i)+3-k), 23, 0))
			}
		}
	}
	write(t, d, at(l, 3, 7), set...)
	write(t, d, at(l, 1, 8), replace...)
	write(t, d, at(l, 2, 9), remove...)
	expectPairs(t, "all of them", d, 49, want...)
	left := slices.DeleteFunc(slices.Clone(want), func(p api.Pair) bool { return p.Entry.Expiry == 50 })
	expectPairs(t, "some have expired", d, 50, left...)
	if len(left) == len(want) || len(left) < 500 {
		t.Errorf("%d of %d keys are left", len(left), len(want))
	}
}
