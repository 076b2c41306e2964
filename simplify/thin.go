package simplify

import (
	"container/heap"

	"mapmaker/api"
)

// thin removes removable points with a size of at most limit, the smallest one first, until there is none or most have been removed; it returns their number.
func (n *net) thin(limit, most int) int {
	waiting := &queue{}
	blocked := map[api.Point][]api.Point{} // by the point in their way
	offer := func(l ...api.Point) {
		for _, p := range l {
			if size, ok := n.size(p); ok && size <= limit {
				heap.Push(waiting, candidate{p, size})
			}
		}
	}
	offer(n.points...)
	removed := 0
removal:
	for removed < most && waiting.Len() > 0 {
		c := waiting.next()
		if size, ok := n.size(c.at); !ok || size != c.size {
			continue removal // since its neighbours changed it has been offered again
		}
		if q, ok := n.obstacle(c.at); ok {
			blocked[q] = append(blocked[q], c.at)
			continue removal
		}
		u, w, _ := n.beside(c.at)
		n.remove(c.at)
		removed++
		offer(u, w)
		offer(blocked[c.at]...)
		delete(blocked, c.at)
	}
	return removed
}

// candidate is a point with the size that it had when it was offered.
type candidate struct {
	at   api.Point
	size int
}

// queue is a heap of candidates, the first one to be removed on top.
type queue []candidate

func (q *queue) next() candidate {
	top := (*q)[0]
	heap.Pop(q)
	return top
}

func (q queue) Len() int { return len(q) }

func (q queue) Less(i, j int) bool {
	if q[i].size != q[j].size {
		return q[i].size < q[j].size
	}
	return comparePoints(q[i].at, q[j].at) < 0
}

func (q queue) Swap(i, j int) { q[i], q[j] = q[j], q[i] }

// Push appends a candidate; heap moves it to its place.
func (q *queue) Push(x any) {
	if c, ok := x.(candidate); ok {
		*q = append(*q, c)
	}
}

// Pop removes the last candidate, which heap has moved there.
func (q *queue) Pop() any {
	last := len(*q) - 1
	c := (*q)[last]
	*q = (*q)[:last]
	return c
}
