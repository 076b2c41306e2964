package alter

import (
	"cmp"
	"slices"

	"mapmaker/api"
	"mapmaker/custom"
	"mapmaker/sweep"
)

// none stands for the arc of a vertex that has none.
const none = -1

// closed is the weight of an arc that no path uses.
const closed = -1

// tree has shortest paths from its root to all vertices, or, if back, from all vertices to the root.
type tree struct {
	back    bool
	ends    []api.Arc // by arc
	weights []int     // by arc
	dist    []int     // by vertex: the distance between it and the root
	arcs    []int     // by vertex: the arc at it on the path between it and the root
}

// treeOf returns the tree of the vertex s, which exists. All weights are positive.
func treeOf(m *custom.Metric, s int, back bool) tree {
	distances := sweep.From
	if back {
		distances = sweep.To
	}
	dist, _ := distances(m, s)
	t := tree{back, m.Hier().Graph().Arcs, m.Weights(), dist, slices.Repeat([]int{none}, len(dist))}
	for i, a := range t.ends {
		near, far := a.From, a.To
		if back {
			near, far = far, near
		}
		// No sum with Inf is a distance, and no arc leads back to s on a shortest path.
		tight := t.weights[i] != closed && dist[near]+t.weights[i] == dist[far]
		if tight && t.arcs[far] == none {
			t.arcs[far] = i
		}
	}
	return t
}

// nearer returns the vertex at the other end of the arc of v.
func (t tree) nearer(v int) int {
	if t.back {
		return t.ends[t.arcs[v]].To
	}
	return t.ends[t.arcs[v]].From
}

// path returns the arcs between v and the root, that of v first.
func (t tree) path(v int) []int {
	var out []int
	for ; t.arcs[v] != none; v = t.nearer(v) {
		out = append(out, t.arcs[v])
	}
	return out
}

// shared returns, for each vertex, the sum of the weights of those arcs between it and the root that are in the map.
func (t tree) shared(arcs map[int]bool) []int {
	var order []int
	for v := range t.dist {
		order = append(order, v)
	}
	slices.SortFunc(order, func(u, v int) int { return cmp.Compare(t.dist[u], t.dist[v]) })
	out := make([]int, len(t.dist))
	for _, v := range order {
		if t.arcs[v] == none {
			continue
		}
		out[v] = out[t.nearer(v)]
		if arcs[t.arcs[v]] {
			out[v] += t.weights[t.arcs[v]]
		}
	}
	return out
}

// pair is the tree from one vertex and the tree back to another one.
type pair struct {
	from, to tree
}

func pairOf(m *custom.Metric, s, t int) pair {
	return pair{treeOf(m, s, false), treeOf(m, t, true)}
}

// cost returns the cost of the path over v, at least Inf if there is none.
func (p pair) cost(v int) int {
	return p.from.dist[v] + p.to.dist[v]
}

// via returns the path over v and its cost.
func (p pair) via(v int) ([]int, int, api.Errno) {
	if p.cost(v) >= api.Inf {
		return nil, 0, api.ErrPath
	}
	path := p.from.path(v)
	slices.Reverse(path)
	return append(path, p.to.path(v)...), p.cost(v), api.OK
}
