// Package pq is layer 4: a priority queue of numbered items whose keys can be changed (chapter 4).
package pq

import "slices"

// maxItems is the greatest number of items of a queue.
const maxItems = 1048576

// absent is the place of an item that is not in the queue.
const absent = -1

// Queue is a binary heap that knows the place of each item.
type Queue struct {
	heap   []int // the items in the queue, none before its parent
	keys   []int // by item
	places []int // by item: its position in heap, or absent
}

// New returns an empty queue for the items 0 to n - 1, or nil if n is out of range.
func New(n int) *Queue {
	if n < 0 || n > maxItems {
		return nil
	}
	return &Queue{keys: make([]int, n), places: slices.Repeat([]int{absent}, n)}
}

// Set inserts the item with that key or changes its key.
func (q *Queue) Set(item, key int) bool {
	if q == nil || item < 0 || item >= len(q.keys) {
		return false
	}
	q.keys[item] = key
	if q.places[item] == absent {
		q.places[item] = len(q.heap)
		q.heap = append(q.heap, item)
	}
	q.settle(q.places[item])
	return true
}

// Key returns the key of an item in the queue and true.
func (q *Queue) Key(item int) (int, bool) {
	if !q.has(item) {
		return 0, false
	}
	return q.keys[item], true
}

// Drop removes the item and reports whether it was in the queue.
func (q *Queue) Drop(item int) bool {
	if !q.has(item) {
		return false
	}
	place, last := q.places[item], len(q.heap)-1
	q.swap(place, last)
	q.heap = q.heap[:last]
	q.places[item] = absent
	if place < last {
		q.settle(place)
	}
	return true
}

// Pop removes the item with the smallest key, and among these the one with the smallest number.
func (q *Queue) Pop() (item, key int, ok bool) {
	if q.Len() == 0 {
		return 0, 0, false
	}
	item = q.heap[0]
	key = q.keys[item]
	return item, key, q.Drop(item)
}

// Len returns the number of items in the queue.
func (q *Queue) Len() int {
	if q == nil {
		return 0
	}
	return len(q.heap)
}

func (q *Queue) has(item int) bool {
	return q != nil && item >= 0 && item < len(q.places) && q.places[item] != absent
}

// before reports whether item a leaves the queue before item b.
func (q *Queue) before(a, b int) bool {
	return q.keys[a] < q.keys[b] || q.keys[a] == q.keys[b] && a < b
}

func (q *Queue) swap(i, j int) {
	q.heap[i], q.heap[j] = q.heap[j], q.heap[i]
	q.places[q.heap[i]], q.places[q.heap[j]] = i, j
}

// settle moves the item at position i, the only one that may be out of order, up or down to where it belongs.
func (q *Queue) settle(i int) {
	before := q.before
	for i > 0 && before(q.heap[i], q.heap[(i-1)/2]) {
		q.swap(i, (i-1)/2)
		i = (i - 1) / 2
	}
	for {
		first := q.heap[i]
		for _, child := range q.children(i) {
			if before(child, first) {
				first = child
			}
		}
		if first == q.heap[i] {
			return
		}
		next := q.places[first]
		q.swap(i, next)
		i = next
	}
}

// children returns the items of the children of position i; the item at i stands for a missing one, since it does not come before itself.
func (q *Queue) children(i int) [2]int {
	items := [2]int{q.heap[i], q.heap[i]}
	for k := range items {
		if c := 2*i + 1 + k; c < len(q.heap) {
			items[k] = q.heap[c]
		}
	}
	return items
}
