package nearest

import (
	"cmp"
	"iter"
	"slices"

	"mapmaker/api"
	"mapmaker/grid"
	"mapmaker/pq"
	"mapmaker/rtree"
)

// entry is what the queue holds: an item or a node.
type entry interface {
	bounds() api.Box
}

type item api.Item

// node is an inner node: its level, counted from the leaves, its number there, and its box.
type node struct {
	level, number int
	box           api.Box
}

func (x item) bounds() api.Box { return x.Box }

func (n node) bounds() api.Box { return n.box }

// search visits the entries of a tree in the order of their distance from a point.
type search struct {
	at     api.Point
	fan    int
	items  []api.Item
	levels [][]api.Box
	queue  *pq.Queue
	held   []entry // by their numbers in the queue
}

// begin returns a search whose queue holds the root, if there is one.
func begin(t *rtree.Tree, p api.Point) *search {
	s := &search{at: p, fan: t.Fan(), items: t.Items(), levels: t.Levels()}
	size := len(s.items)
	for _, level := range s.levels {
		size += len(level)
	}
	s.queue = pq.New(size)
	if top := len(s.levels) - 1; top >= 0 {
		s.push(node{top, 0, s.levels[top][0]})
	}
	return s
}

func (s *search) push(e entry) {
	s.queue.Set(len(s.held), grid.Dist2(e.bounds(), s.at))
	s.held = append(s.held, e)
}

// open pushes the children of a node.
func (s *search) open(n node) {
	from := n.number * s.fan
	if n.level == 0 {
		for _, x := range s.items[from:min(from+s.fan, len(s.items))] {
			s.push(item(x))
		}
		return
	}
	below := s.levels[n.level-1]
	for i := from; i < min(from+s.fan, len(below)); i++ {
		s.push(node{n.level - 1, i, below[i]})
	}
}

// group returns the next items with equal distances, in the order of their references, and their squared distance; none at the end.
func (s *search) group() (group []api.Ref, far int) {
	for {
		number, key, ok := s.queue.Pop()
		if !ok {
			break
		}
		if len(group) > 0 && key > far {
			s.queue.Set(number, key) // it belongs to a later group
			break
		}
		// A node is not nearer than what contains it, so that no item of this distance can follow later.
		switch e := s.held[number].(type) {
		case item:
			group, far = append(group, e.Ref), key
		case node:
			s.open(e)
		}
	}
	slices.SortFunc(group, compareRefs)
	return group, far
}

// inOrder yields the references of the items and their squared distances from p, in increasing order of the distances, then of the references.
func inOrder(t *rtree.Tree, p api.Point) iter.Seq2[api.Ref, int] {
	return func(yield func(api.Ref, int) bool) {
		s := begin(t, p)
		for group, far := s.group(); len(group) > 0; group, far = s.group() {
			for _, ref := range group {
				if !yield(ref, far) {
					return
				}
			}
		}
	}
}

func compareRefs(a, b api.Ref) int {
	return cmp.Or(cmp.Compare(a.Kind, b.Kind), cmp.Compare(a.ID, b.ID))
}
