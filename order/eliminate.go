package order

import (
	"mapmaker/api"
	"mapmaker/graph"
	"mapmaker/sets"
)

// undirected has the set of neighbours of each vertex, or nil if it was eliminated.
type undirected []map[int]bool

func neighbours(g api.Graph) undirected {
	lists := graph.Neighbours(g)
	near := make(undirected, len(lists))
	for v, list := range lists {
		near[v] = map[int]bool{}
		for _, u := range list {
			near[v][u] = true
		}
	}
	return near
}

// eliminate connects the neighbours of v with each other and removes v. It returns the neighbours and the number of pairs that were not connected before.
func (near undirected) eliminate(v int) (around []int, added int) {
	for u := range near[v] {
		around = append(around, u)
		delete(near[u], v)
	}
	near[v] = nil
	// The order of a map is random.
	around = sets.Of(around...)
	for i, a := range around {
		for _, b := range around[:i] {
			if !near[a][b] {
				near[a][b], near[b][a] = true, true
				added++
			}
		}
	}
	return around, added
}

// candidate is a vertex with the number of neighbours that it had when it was queued.
type candidate struct{ degree, vertex int }

// candidates is a heap with the candidate to eliminate next at the top.
type candidates []candidate

func (c candidates) Len() int { return len(c) }

func (c candidates) Less(i, j int) bool {
	if c[i].degree != c[j].degree {
		return c[i].degree < c[j].degree
	}
	return c[i].vertex < c[j].vertex
}

func (c candidates) Swap(i, j int) { c[i], c[j] = c[j], c[i] }

// Push adds a candidate, as heap.Push asks for it.
func (c *candidates) Push(x any) {
	if y, ok := x.(candidate); ok {
		*c = append(*c, y)
	}
}

// Pop removes the last candidate, as heap.Pop asks for it.
func (c *candidates) Pop() any {
	last := len(*c) - 1
	x := (*c)[last]
	*c = (*c)[:last]
	return x
}
