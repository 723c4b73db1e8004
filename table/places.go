package table

import (
	"strings"

	"flashcache/api"
	"flashcache/keyhash"
)

// state is what a place is.
type state int8

// The states. The search for a key ends at a free place, but goes on behind a vacated one: when the key was added, there may have been an entry.
const (
	free state = iota
	taken
	vacated
)

// place is a hash place. Unless it is taken, it has nothing but its state.
type place struct {
	state state
	hash  uint64
	key   string
	entry api.Entry
}

// places are 2^bits hash places, or none. A key is between its home and the first free place from there on; behind the last place comes the first one.
type places struct {
	list []place
	bits int
	used int // how many are not free
}

// newPlaces returns 2^bits free places.
func newPlaces(bits int) places {
	return places{list: make([]place, 1<<bits), bits: bits}
}

// full reports whether one more entry could fill more than three quarters of the places.
func (p *places) full() bool {
	return 4*(p.used+1) > 3*len(p.list)
}

// find returns the place of key, whose hash is h, or nil if it has none.
func (p *places) find(h uint64, key string) *place {
	if len(p.list) == 0 {
		return nil
	}
	for i := keyhash.Home(h, p.bits); p.list[i].state != free; i = p.behind(i) {
		if x := &p.list[i]; x.state == taken && x.hash == h && x.key == key {
			return x
		}
	}
	return nil
}

// add puts x, whose key has no place, into the first place that is not taken. The places must not be full.
func (p *places) add(x place) {
	i := keyhash.Home(x.hash, p.bits)
	for p.list[i].state == taken {
		i = p.behind(i)
	}
	if p.list[i].state == free {
		p.used++
	}
	p.list[i] = x
}

// behind returns the place that follows the place i.
func (p *places) behind(i int) int {
	return (i + 1) & (len(p.list) - 1)
}

// appendPairs appends all keys with their entries to pairs.
func (p *places) appendPairs(pairs []api.Pair) []api.Pair {
	for i := range p.list {
		if x := &p.list[i]; x.state == taken {
			pairs = append(pairs, api.Pair{Key: strings.Clone(x.key), Entry: x.entry})
		}
	}
	return pairs
}

// vacate takes the entry out of x.
func (x *place) vacate() {
	*x = place{state: vacated}
}
