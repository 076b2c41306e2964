package simplify

import (
	"slices"
	"sort"

	"mapmaker/api"
	"mapmaker/grid"
	"mapmaker/mesh"
	"mapmaker/seg"
)

// net is a mesh whose points can be removed.
type net struct {
	points []api.Point              // those of the given mesh, in increasing order
	edges  map[api.Point][]api.Edge // by both of their ends; a point without edges has been removed
}

// netOf returns the net of a mesh; it is empty if mesh's Check rejects m. Every removal leads to a mesh that passes Check again, so that one check is enough.
func netOf(m []api.Edge) *net {
	n := &net{edges: map[api.Point][]api.Edge{}}
	if mesh.Check(m) != api.OK {
		return n
	}
	for _, e := range copyMesh(m) {
		for _, p := range []api.Point{e.A, e.B} {
			if len(n.edges[p]) == 0 {
				n.points = append(n.points, p)
			}
			n.edges[p] = append(n.edges[p], e)
		}
	}
	slices.SortFunc(n.points, comparePoints)
	return n
}

// mesh returns the edges in increasing order.
func (n *net) mesh() []api.Edge {
	var out []api.Edge
	for _, p := range n.points {
		for _, e := range n.edges[p] {
			if e.A == p {
				out = append(out, e)
			}
		}
	}
	slices.SortFunc(out, func(a, b api.Edge) int {
		if a.A != b.A {
			return comparePoints(a.A, b.A)
		}
		return comparePoints(a.B, b.B)
	})
	return out
}

// beside returns the other ends of the edges of a point that has exactly two, and true.
func (n *net) beside(p api.Point) (u, w api.Point, ok bool) {
	l := n.edges[p]
	if len(l) != 2 {
		return api.Point{}, api.Point{}, false
	}
	return other(l[0], p), other(l[1], p), true
}

func (n *net) size(p api.Point) (int, bool) {
	u, w, ok := n.beside(p)
	if !ok {
		return 0, false
	}
	turn := seg.Turn(u, p, w)
	return max(turn, -turn), true
}

func (n *net) removable(p api.Point) bool {
	if _, ok := n.size(p); !ok {
		return false
	}
	_, blocked := n.obstacle(p)
	return !blocked
}

// obstacle returns a point that is in the way of the removal of a point with a size, and true. That one can be removed only after the returned one, or when its own edges have changed.
//
// No other edge crosses the two edges at p. So an edge that has more than its ends in common with the triangle is the third side of it, or has another end in it. The sides of both edges at p are the same, since no further edge divides the areas around p.
func (n *net) obstacle(p api.Point) (api.Point, bool) {
	u, w, _ := n.beside(p)
	if slices.ContainsFunc(n.edges[u], func(e api.Edge) bool { return other(e, u) == w }) {
		return u, true
	}
	box, _ := grid.Box(u, p, w)
	for i := n.from(box.X0, box.Y0); i < len(n.points) && n.points[i].X <= box.X1; {
		switch q := n.points[i]; {
		case q.Y < box.Y0:
			i = n.from(q.X, box.Y0)
		case q.Y > box.Y1:
			i = n.from(q.X+1, box.Y0)
		case q != u && q != p && q != w && len(n.edges[q]) > 0 && inTriangle(q, u, p, w):
			return q, true
		default:
			i++
		}
	}
	return api.Point{}, false
}

// from returns the index of the first point that is not less than {x y}.
func (n *net) from(x, y int) int {
	return sort.Search(len(n.points), func(i int) bool { return !grid.Less(n.points[i], api.Point{X: x, Y: y}) })
}

// remove replaces the two edges of a removable point by one.
func (n *net) remove(p api.Point) {
	u, w, _ := n.beside(p)
	old := n.edges[p][0] // between u and p
	s := seg.Of(u, w)
	e := api.Edge{A: s.A, B: s.B, Left: old.Left, Right: old.Right}
	if (old.A == u) != (e.A == u) {
		e.Left, e.Right = e.Right, e.Left
	}
	for _, q := range []api.Point{u, w} {
		l := n.edges[q]
		l[slices.IndexFunc(l, func(f api.Edge) bool { return other(f, q) == p })] = e
	}
	delete(n.edges, p)
}

// inTriangle reports whether a point of the box of a triangle is in the triangle.
func inTriangle(q, a, b, c api.Point) bool {
	x, y, z := seg.Turn(a, b, q), seg.Turn(b, c, q), seg.Turn(c, a, q)
	return min(x, y, z) >= 0 || max(x, y, z) <= 0
}

// other returns the other end of an edge that ends in p.
func other(e api.Edge, p api.Point) api.Point {
	if e.A == p {
		return e.B
	}
	return e.A
}

func comparePoints(a, b api.Point) int {
	switch {
	case grid.Less(a, b):
		return -1
	case a == b:
		return 0
	}
	return 1
}
