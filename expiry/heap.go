package expiry

import "cmp"

// node is a key of a heap, with its rank and its place in the order of the heap.
type node[K, R cmp.Ordered] struct {
	key   K
	rank  R
	place int
}

// before reports whether a's rank is less than b's, or, where these are equal, a's key.
func before[K, R cmp.Ordered](a, b *node[K, R]) bool {
	if a.rank != b.rank {
		return a.rank < b.rank
	}
	return a.key < b.key
}

// heap is a binary heap of keys with ranks. No node is before the one above it, so the first one is before all others.
type heap[K, R cmp.Ordered] struct {
	nodes []*node[K, R]
	keys  map[K]*node[K, R] // so that a key is found without a search
}

// set gives key this rank, in the place of any earlier one.
func (h *heap[K, R]) set(key K, rank R) {
	x := h.keys[key]
	if x == nil {
		x = h.add(key)
	}
	x.rank = rank
	h.settle(x)
}

// add returns a node for key, at the last place, which has yet to get its rank and to be settled.
func (h *heap[K, R]) add(key K) *node[K, R] {
	x := &node[K, R]{key: key, place: len(h.nodes)}
	h.nodes = append(h.nodes, x)
	if h.keys == nil {
		h.keys = map[K]*node[K, R]{}
	}
	h.keys[key] = x
	return x
}

// remove removes key, if the heap has it.
func (h *heap[K, R]) remove(key K) {
	x := h.keys[key]
	if x == nil {
		return
	}
	delete(h.keys, key)
	end := len(h.nodes) - 1
	last := h.nodes[end]
	h.swap(x, last)
	h.nodes[end] = nil // so that its memory is not kept
	h.nodes = h.nodes[:end]
	if last != x {
		h.settle(last)
	}
}

// first returns the node that is before all others, or nil if there is none.
func (h *heap[K, R]) first() *node[K, R] {
	if len(h.nodes) == 0 {
		return nil
	}
	return h.nodes[0]
}

// settle moves x, the only node that may be out of order, to where it belongs. At most one of the two ways moves it.
func (h *heap[K, R]) settle(x *node[K, R]) {
	h.rise(x)
	h.sink(x)
}

// rise moves x up as long as it is before the node above it.
func (h *heap[K, R]) rise(x *node[K, R]) {
	for x.place > 0 {
		above := h.nodes[(x.place-1)/2]
		if !before(x, above) {
			return
		}
		h.swap(x, above)
	}
}

// sink moves x down as long as one of the two nodes below is before it.
func (h *heap[K, R]) sink(x *node[K, R]) {
	for {
		least := x
		for i := 2*x.place + 1; i <= 2*x.place+2 && i < len(h.nodes); i++ {
			if before(h.nodes[i], least) {
				least = h.nodes[i]
			}
		}
		if least == x {
			return
		}
		h.swap(x, least)
	}
}

// swap lets a and b change places.
func (h *heap[K, R]) swap(a, b *node[K, R]) {
	a.place, b.place = b.place, a.place
	h.nodes[a.place], h.nodes[b.place] = a, b
}
