package simplify

import (
	"cmp"
	"math"
	"math/big"
	"math/rand"
	"slices"
	"testing"

	"mapmaker/api"
	"mapmaker/mesh"
)

func at(x, y int) api.Point { return api.Point{X: x, Y: y} }

func before(a, b api.Point) bool { return a.X < b.X || a.X == b.X && a.Y < b.Y }

func segOf(a, b api.Point) api.Seg {
	if before(b, a) {
		a, b = b, a
	}
	return api.Seg{A: a, B: b}
}

func turn(a, b, c api.Point) int {
	return (b.X-a.X)*(c.Y-a.Y) - (b.Y-a.Y)*(c.X-a.X)
}

// pts returns the points whose X and Y are given in turn.
func pts(l ...int) (out []api.Point) {
	for i := 0; i < len(l); i += 2 {
		out = append(out, at(l[i], l[i+1]))
	}
	return out
}

func edge(ax, ay, bx, by int, left, right []int) api.Edge {
	return api.Edge{A: at(ax, ay), B: at(bx, by), Left: left, Right: right}
}

// of returns the mesh of areas, each with one ring.
func of(t *testing.T, rings ...[]api.Point) []api.Edge {
	t.Helper()
	var l []api.Area
	for _, r := range rings {
		l = append(l, api.Area{Rings: [][]api.Point{r}})
	}
	m, err := mesh.OfAreas(l)
	if err != api.OK {
		t.Fatalf("the mesh of %v has the error %d", rings, err)
	}
	return m
}

func deep(m []api.Edge) (out []api.Edge) {
	for _, e := range m {
		e.Left, e.Right = slices.Clone(e.Left), slices.Clone(e.Right)
		out = append(out, e)
	}
	return out
}

// unfit are meshes that mesh's Check rejects.
func unfit(t *testing.T) map[string][]api.Edge {
	good := of(t, pts(0, 0, 10, 0, 10, 10, 0, 10), pts(10, 0, 20, 0, 20, 10, 10, 10, 11, 5))
	change := func(f func(m []api.Edge) []api.Edge) []api.Edge { return f(deep(good)) }
	return map[string][]api.Edge{
		"an open one":       change(func(m []api.Edge) []api.Edge { return m[1:] }),
		"the wrong order":   change(func(m []api.Edge) []api.Edge { m[0], m[1] = m[1], m[0]; return m }),
		"an edge twice":     change(func(m []api.Edge) []api.Edge { return slices.Insert(m, 0, m[0]) }),
		"exchanged sides":   change(func(m []api.Edge) []api.Edge { m[0].Left, m[0].Right = m[0].Right, m[0].Left; return m }),
		"reversed edges":    change(func(m []api.Edge) []api.Edge { m[0].A, m[0].B = m[0].B, m[0].A; return m }),
		"unsorted areas":    change(func(m []api.Edge) []api.Edge { m[0].Right = []int{1, 0}; return m }),
		"too many areas":    change(func(m []api.Edge) []api.Edge { m[0].Right = []int{0, 20000}; return m }),
		"an edge to cross":  change(func(m []api.Edge) []api.Edge { return slices.Insert(m, 0, edge(0, 0, 0, 5, nil, nil)) }),
		"no areas":          change(func(m []api.Edge) []api.Edge { m[0].Right = nil; return m }),
		"beyond the grid":   {edge(0, 0, api.Side, 0, []int{0}, nil)},
		"extreme points":    {edge(math.MinInt, 0, math.MaxInt, 0, []int{0}, nil)},
		"equal ends":        {edge(5, 5, 5, 5, nil, nil)},
		"different borders": {edge(0, 0, 0, 9, nil, []int{0}), edge(0, 0, 5, 5, []int{1}, nil), edge(0, 9, 5, 5, nil, []int{0})},
	}
}

func TestP25_1Unfit(t *testing.T) {
	for name, m := range unfit(t) {
		if mesh.Check(m) == api.OK {
			t.Fatalf("%s passes Check", name)
		}
		if l := Points(m); len(l) != 0 {
			t.Errorf("%s: Points is %v", name, l)
		}
		for _, e := range m {
			for _, p := range []api.Point{e.A, e.B} {
				if n, ok := Size(m, p); n != 0 || ok {
					t.Errorf("%s: Size of %v is %d, %v", name, p, n, ok)
				}
				if Removable(m, p) {
					t.Errorf("%s: %v is removable", name, p)
				}
				if got := Remove(m, p); !mesh.Same(got, m) {
					t.Errorf("%s: Remove of %v is %v, not %v", name, p, got, m)
				}
			}
		}
		if got, ok := Step(m, math.MaxInt); !mesh.Same(got, m) || ok {
			t.Errorf("%s: Step is %v, %v", name, got, ok)
		}
		if got := Mesh(m, math.MaxInt); !mesh.Same(got, m) {
			t.Errorf("%s: Mesh is %v", name, got)
		}
	}
	if got, ok := Step(nil, 9); len(got) != 0 || ok || len(Mesh(nil, 9)) != 0 || len(Points(nil)) != 0 || len(Remove(nil, at(0, 0))) != 0 || Removable(nil, at(0, 0)) {
		t.Error("the empty mesh has a point")
	}
	if n, ok := Size(nil, at(0, 0)); n != 0 || ok {
		t.Error("a point of the empty mesh has a size")
	}
}

func TestP25_1Size(t *testing.T) {
	m := of(t, pts(0, 0, 10, 0, 10, 10, 0, 10, 0, 4), pts(10, 0, 20, 0, 20, 10, 10, 10, 11, 5), pts(10, 0, 11, 5, 10, 10))
	for _, x := range []struct {
		p    api.Point
		want int
		ok   bool
	}{
		{at(0, 0), 40, true}, {at(0, 4), 0, true}, {at(0, 10), 60, true}, {at(20, 0), 100, true}, {at(20, 10), 100, true}, {at(11, 5), 10, true},
		// Four edges, a point within an edge, one of no edge, and points beyond the grid.
		{at(10, 0), 0, false}, {at(10, 10), 0, false}, {at(5, 0), 0, false}, {at(5, 5), 0, false}, {at(-1, 0), 0, false}, {at(math.MaxInt, math.MinInt), 0, false},
	} {
		if n, ok := Size(m, x.p); n != x.want || ok != x.ok {
			t.Errorf("Size of %v is %d, %v, not %d, %v", x.p, n, ok, x.want, x.ok)
		}
	}
	last := api.Side - 1
	if n, ok := Size(of(t, pts(0, 0, last, 0, last, last, 0, last)), at(last, 0)); n != last*last || !ok {
		t.Errorf("Size of a corner of the grid is %d, %v", n, ok)
	}
}

func TestP25_1Removable(t *testing.T) {
	square := pts(0, 0, 20, 0, 20, 20, 0, 20)
	for _, x := range []struct {
		name  string
		rings [][]api.Point
		p     api.Point
		want  bool
	}{
		{"a corner of a square", [][]api.Point{square}, at(0, 0), true},
		{"a point on a side", [][]api.Point{pts(0, 0, 5, 0, 20, 0, 20, 20)}, at(5, 0), true},
		{"a corner of a triangle", [][]api.Point{pts(0, 0, 20, 0, 10, 9)}, at(10, 9), false},
		{"a point on the side of a triangle", [][]api.Point{pts(0, 0, 9, 0, 20, 0, 10, 9)}, at(9, 0), true},
		{"a corner beside a point on a side", [][]api.Point{pts(0, 0, 9, 0, 20, 0, 10, 9)}, at(0, 0), true},
		{"a corner opposite a point on a side", [][]api.Point{pts(0, 0, 9, 0, 20, 0, 10, 9)}, at(10, 9), false},
		{"the end of three edges", [][]api.Point{square, pts(20, 0, 30, 0, 20, 20)}, at(20, 0), false},
		{"the end of four edges", [][]api.Point{square, pts(20, 0, 30, -0, 30, 1)}, at(20, 0), false},
		{"no point of the mesh", [][]api.Point{square}, at(10, 0), false},
		{"no point of the grid", [][]api.Point{square}, at(-1, math.MaxInt), false},
		{"a corner with another area behind the cut", [][]api.Point{square, pts(11, 11, 15, 11, 15, 15)}, at(0, 0), true},
		{"a corner with another area before the cut", [][]api.Point{square, pts(2, 2, 4, 2, 4, 4)}, at(0, 0), false},
		{"a corner with an area that reaches over the cut", [][]api.Point{square, pts(9, 9, 15, 11, 15, 15)}, at(0, 0), false},
		{"a corner with an area that touches the cut", [][]api.Point{square, pts(10, 10, 15, 11, 15, 15)}, at(0, 0), false},
		{"a corner with an area that touches it nearly", [][]api.Point{square, pts(10, 11, 15, 11, 15, 15)}, at(0, 0), true},
		{"a corner with an area that reaches from the neighbour away", [][]api.Point{square, pts(20, 0, 30, 0, 30, 5)}, at(0, 0), true},
		{"a corner with an area that reaches from the neighbour behind the cut", [][]api.Point{square, pts(20, 0, 15, 10, 19, 10)}, at(0, 0), true},
		{"a corner with an area that reaches from the neighbour into the triangle", [][]api.Point{square, pts(20, 0, 5, 10, 19, 10)}, at(0, 0), false},
		{"a corner with an area that reaches from the neighbour along the cut", [][]api.Point{square, pts(20, 0, 15, 5, 19, 10)}, at(0, 0), false},
		{"a corner with the cut as an edge", [][]api.Point{square, pts(0, 20, 20, 0, 15, 15)}, at(0, 0), false},
		{"a corner behind the cut as an edge", [][]api.Point{square, pts(0, 20, 20, 0, 15, 15)}, at(20, 20), false},
		{"an inward corner", [][]api.Point{pts(0, 0, 20, 0, 10, 5, 20, 20, 0, 20)}, at(10, 5), true},
		{"an inward corner with another area before it", [][]api.Point{pts(0, 0, 20, 0, 10, 5, 20, 20, 0, 20), pts(14, 6, 15, 6, 15, 7)}, at(10, 5), false},
		{"an inward corner with another area beside it", [][]api.Point{pts(0, 0, 20, 0, 10, 5, 20, 20, 0, 20), pts(21, 6, 25, 6, 25, 7)}, at(10, 5), true},
		{"a corner with its own ring in the way", [][]api.Point{pts(0, 0, 20, 0, 20, 20, 3, 3, 0, 20)}, at(0, 0), false},
		{"the inner corner of that ring", [][]api.Point{pts(0, 0, 20, 0, 20, 20, 3, 3, 0, 20)}, at(3, 3), true},
		{"a common corner of two areas", [][]api.Point{pts(0, 0, 20, 0, 21, 10, 20, 20, 0, 20), pts(20, 0, 40, 0, 40, 20, 20, 20, 21, 10)}, at(21, 10), true},
		{"a common corner of two equal areas", [][]api.Point{square, square}, at(20, 20), true},
		{"a point on a side, with areas at both neighbours", [][]api.Point{pts(10, 10, 15, 10, 20, 10, 20, 20), pts(20, 10, 30, 10, 30, 11), pts(10, 10, 0, 10, 0, 11)}, at(15, 10), true},
		{"a point between two areas that touch its neighbours", [][]api.Point{pts(0, 0, 10, 10, 0, 20), pts(10, 10, 20, 0, 20, 20)}, at(0, 0), false},
	} {
		m := of(t, x.rings...)
		if got := Removable(m, x.p); got != x.want {
			t.Errorf("Removable of %s is %v", x.name, got)
		}
		if got := mayGo(m, x.p); got != x.want {
			t.Errorf("%s: by the definition it is %v", x.name, got)
		}
		if got := Remove(m, x.p); mesh.Same(got, m) == x.want || mesh.Check(got) != api.OK {
			t.Errorf("Remove of %s is %v", x.name, got)
		}
	}
}

func TestP25_1Remove(t *testing.T) {
	// The border of both areas becomes straight; the other edges remain.
	m := of(t, pts(0, 0, 10, 0, 11, 5, 10, 10, 0, 10), pts(10, 0, 20, 0, 20, 10, 10, 10, 11, 5))
	a, b := []int{0}, []int{1}
	want := []api.Edge{
		edge(0, 0, 0, 10, nil, a), edge(0, 0, 10, 0, a, nil), edge(0, 10, 10, 10, nil, a), edge(10, 0, 10, 10, a, b),
		edge(10, 0, 20, 0, b, nil), edge(10, 10, 20, 10, nil, b), edge(20, 0, 20, 10, b, nil),
	}
	if got := Remove(m, at(11, 5)); !mesh.Same(got, want) {
		t.Errorf("Remove is %v, not %v", got, want)
	}
	// The new edge is inserted in order, also where it has other neighbours than the old ones, with its own left and right.
	for _, x := range []struct {
		p    api.Point
		want []api.Edge
	}{
		{at(0, 0), []api.Edge{edge(0, 10, 10, 0, a, nil), edge(0, 10, 10, 10, nil, a), edge(10, 0, 10, 10, a, nil)}},
		{at(10, 0), []api.Edge{edge(0, 0, 0, 10, nil, a), edge(0, 0, 10, 10, a, nil), edge(0, 10, 10, 10, nil, a)}},
		{at(10, 10), []api.Edge{edge(0, 0, 0, 10, nil, a), edge(0, 0, 10, 0, a, nil), edge(0, 10, 10, 0, nil, a)}},
		{at(0, 10), []api.Edge{edge(0, 0, 10, 0, a, nil), edge(0, 0, 10, 10, nil, a), edge(10, 0, 10, 10, a, nil)}},
	} {
		if got := Remove(of(t, pts(0, 0, 10, 0, 10, 10, 0, 10)), x.p); !mesh.Same(got, x.want) {
			t.Errorf("Remove of %v is %v, not %v", x.p, got, x.want)
		}
	}
}

func TestP25_1Points(t *testing.T) {
	m := of(t, pts(10, 0, 20, 0, 20, 10, 10, 10), pts(0, 0, 10, 0, 10, 10, 0, 10))
	if got, want := Points(m), pts(0, 0, 0, 10, 10, 0, 10, 10, 20, 0, 20, 10); !slices.Equal(got, want) {
		t.Errorf("Points is %v, not %v", got, want)
	}
}

// apart reports whether the edge has no point in common with the hull of u, p and w, except that it may end in u or w. The edge is cut by the half planes of the hull; a parameter from 0 to 1 tells its points.
func apart(e api.Edge, u, p, w api.Point) bool {
	low, high := big.NewRat(0, 1), big.NewRat(1, 1)
	cut := func(f func(q api.Point) int) {
		a, b := int64(f(e.A)), int64(f(e.B))
		switch {
		case a < 0 && b < 0, a == b && a < 0:
			low = big.NewRat(2, 1)
		case a < 0 && b >= 0:
			if x := big.NewRat(-a, b-a); x.Cmp(low) > 0 {
				low = x
			}
		case a >= 0 && b < 0:
			if x := big.NewRat(a, a-b); x.Cmp(high) < 0 {
				high = x
			}
		}
	}
	whole := turn(u, p, w)
	if whole < 0 {
		u, w, whole = w, u, -whole
	}
	for _, s := range [][2]api.Point{{u, p}, {p, w}, {w, u}} {
		cut(func(q api.Point) int { return turn(s[0], s[1], q) })
		if whole == 0 {
			cut(func(q api.Point) int { return turn(s[1], s[0], q) })
		}
	}
	cut(func(q api.Point) int { return q.X - min(u.X, p.X, w.X) })
	cut(func(q api.Point) int { return max(u.X, p.X, w.X) - q.X })
	cut(func(q api.Point) int { return q.Y - min(u.Y, p.Y, w.Y) })
	cut(func(q api.Point) int { return max(u.Y, p.Y, w.Y) - q.Y })
	switch low.Cmp(high) {
	case 1:
		return true
	case 0:
		return low.Sign() == 0 && (e.A == u || e.A == w) || low.Cmp(big.NewRat(1, 1)) == 0 && (e.B == u || e.B == w)
	}
	return false
}

// neighbours returns the edges at p with their other ends, and the sides left and right of the way along the edge from or to p.
func neighbours(m []api.Edge, p api.Point) (edges []int, ends []api.Point) {
	for i, e := range m {
		switch p {
		case e.A:
			edges, ends = append(edges, i), append(ends, e.B)
		case e.B:
			edges, ends = append(edges, i), append(ends, e.A)
		}
	}
	return edges, ends
}

// sides returns the areas left and right of edge e on the way from one of its ends.
func sides(e api.Edge, from api.Point) (left, right []int) {
	if e.A == from {
		return e.Left, e.Right
	}
	return e.Right, e.Left
}

// mayGo decides by the definition whether p is removable.
func mayGo(m []api.Edge, p api.Point) bool {
	edges, ends := neighbours(m, p)
	if len(edges) != 2 || ends[0] == ends[1] {
		return false
	}
	inL, inR := sides(m[edges[0]], ends[0])
	outL, outR := sides(m[edges[1]], p)
	if !slices.Equal(inL, outL) || !slices.Equal(inR, outR) {
		return false
	}
	for i, e := range m {
		if !slices.Contains(edges, i) && !apart(e, ends[0], p, ends[1]) {
			return false
		}
	}
	return true
}

// sizeOf returns the size by the definition.
func sizeOf(m []api.Edge, p api.Point) (int, bool) {
	_, ends := neighbours(m, p)
	if len(ends) != 2 {
		return 0, false
	}
	n := turn(ends[0], p, ends[1])
	return max(n, -n), true
}

// without returns the mesh without p, by the definition.
func without(m []api.Edge, p api.Point) []api.Edge {
	edges, ends := neighbours(m, p)
	s := segOf(ends[0], ends[1])
	left, right := sides(m[edges[0]], ends[0])
	if s.A != ends[0] {
		left, right = right, left
	}
	out := []api.Edge{{A: s.A, B: s.B, Left: left, Right: right}}
	for i, e := range m {
		if !slices.Contains(edges, i) {
			out = append(out, e)
		}
	}
	slices.SortFunc(out, func(a, b api.Edge) int {
		return cmp.Or(cmp.Compare(a.A.X, b.A.X), cmp.Compare(a.A.Y, b.A.Y), cmp.Compare(a.B.X, b.B.X), cmp.Compare(a.B.Y, b.B.Y))
	})
	return out
}

// ends returns the points of the mesh in increasing order.
func ends(m []api.Edge) []api.Point {
	seen := map[api.Point]bool{}
	var out []api.Point
	for _, e := range m {
		for _, p := range []api.Point{e.A, e.B} {
			if !seen[p] {
				out = append(out, p)
			}
			seen[p] = true
		}
	}
	slices.SortFunc(out, func(a, b api.Point) int { return cmp.Or(cmp.Compare(a.X, b.X), cmp.Compare(a.Y, b.Y)) })
	return out
}

// step is Step by the definition.
func step(m []api.Edge, limit int) ([]api.Edge, bool) {
	var best api.Point
	least, found := 0, false
	for _, p := range ends(m) {
		if size, ok := sizeOf(m, p); ok && size <= limit && (!found || size < least) && mayGo(m, p) {
			best, least, found = p, size, true
		}
	}
	if !found {
		return m, false
	}
	return without(m, best), true
}

// A plan assigns the triangles of a net to areas; most of them have the shape of blots, so that their borders have many points with two edges.
type plan func(r *rand.Rand, areas, n int) func(i, j, half int) []int

// blots gives each area a disc, with some triangles missing or added.
func blots(r *rand.Rand, areas, n int) func(i, j, half int) []int {
	var x, y, radius []int
	noise := []int{0, 0, 3, 20}[r.Intn(4)]
	for range areas {
		x, y, radius = append(x, r.Intn(n+1)), append(y, r.Intn(n+1)), append(radius, 1+r.Intn(n))
	}
	return func(i, j, half int) (out []int) {
		for a := range areas {
			dx, dy := i-x[a], j-y[a]
			if (dx*dx+dy*dy <= radius[a]*radius[a]) != (r.Intn(100) < noise) {
				out = append(out, a)
			}
		}
		return out
	}
}

// parts gives each triangle to the area whose center is nearest.
func parts(r *rand.Rand, areas, n int) func(i, j, half int) []int {
	var x, y []int
	for range areas {
		x, y = append(x, r.Intn(n+1)), append(y, r.Intn(n+1))
	}
	return func(i, j, half int) []int {
		best, least := -1, 0
		for a := range areas {
			dx, dy := i-x[a], j-y[a]
			if d := dx*dx + dy*dy; best < 0 || d < least {
				best, least = a, d
			}
		}
		if best < 0 {
			return nil
		}
		return []int{best}
	}
}

// randomMesh returns the mesh of areas that consist of triangles of a net of n by n cells, whose points are moved a little, unless they are even.
func randomMesh(t *testing.T, r *rand.Rand, n, areas, cell int, p plan, even bool) []api.Edge {
	t.Helper()
	move := func() int {
		if even || cell < 5 {
			return 0
		}
		return r.Intn(2*(cell/5)+1) - cell/5
	}
	corner := make([][]api.Point, n+1)
	for i := range corner {
		for j := range n + 1 {
			corner[i] = append(corner[i], at(cell*(i+1)+move(), cell*(j+1)+move()))
		}
	}
	in := p(r, areas, n)
	borders := make([]map[api.Seg]bool, areas)
	add := func(of []int, tri ...api.Point) {
		for _, a := range of {
			if borders[a] == nil {
				borders[a] = map[api.Seg]bool{}
			}
			for k := range tri {
				s := segOf(tri[k], tri[(k+1)%3])
				borders[a][s] = !borders[a][s]
			}
		}
	}
	for i := range n {
		for j := range n {
			a, b, c, d := corner[i][j], corner[i+1][j], corner[i+1][j+1], corner[i][j+1]
			if r.Intn(2) == 0 {
				a, b, c, d = b, c, d, a
			}
			add(in(i, j, 0), a, b, c)
			add(in(i, j, 1), a, c, d)
		}
	}
	l := make([][]api.Seg, areas)
	for a, border := range borders {
		for s, odd := range border {
			if odd {
				l[a] = append(l[a], s)
			}
		}
	}
	m, err := mesh.Build(l)
	if err != api.OK {
		t.Fatalf("the mesh of %v has the error %d", l, err)
	}
	return m
}

// meshes calls see with random meshes.
func meshes(t *testing.T, count, most int, see func(r *rand.Rand, m []api.Edge)) {
	r := rand.New(rand.NewSource(1))
	for range count {
		p := []plan{blots, parts}[r.Intn(2)]
		cell := []int{1, 2, 7, 20, 500}[r.Intn(5)]
		see(r, randomMesh(t, r, 1+r.Intn(most), r.Intn(8), cell, p, r.Intn(3) == 0))
	}
}

func TestP25_1ByDefinition(t *testing.T) {
	total := map[bool]int{}
	meshes(t, 300, 6, func(r *rand.Rand, m []api.Edge) {
		m = Mesh(m, []int{-1, 400, math.MaxInt, math.MaxInt}[r.Intn(4)])
		all := ends(m)
		if got := Points(m); !slices.Equal(got, all) {
			t.Fatalf("Points(%v) is %v, not %v", m, got, all)
		}
		for _, p := range append(all, at(r.Intn(50), r.Intn(50)), at(-1, 5)) {
			n, ok := Size(m, p)
			want, has := sizeOf(m, p)
			if n != want || ok != has {
				t.Fatalf("Size(%v, %v) is %d, %v, not %d, %v", m, p, n, ok, want, has)
			}
			may := mayGo(m, p)
			if got := Removable(m, p); got != may {
				t.Fatalf("Removable(%v, %v) is %v", m, p, got)
			}
			if ok {
				total[may]++
			}
			next := m
			if may {
				next = without(m, p)
			}
			if got := Remove(m, p); !mesh.Same(got, next) {
				t.Fatalf("Remove(%v, %v) is %v, not %v", m, p, got, next)
			}
		}
	})
	if total[true] < 300 || total[false] < 300 {
		t.Errorf("too few points can be removed or not: %v", total)
	}
}

func TestP25_2Examples(t *testing.T) {
	square := pts(0, 0, 5, 0, 10, 0, 10, 10, 0, 10)
	for _, x := range []struct {
		name  string
		ring  []api.Point
		limit int
		want  []api.Point // after Mesh
		first []api.Point // after Step, if not nil
	}{
		{"a point on a side", square, 0, pts(0, 0, 10, 0, 10, 10, 0, 10), pts(0, 0, 10, 0, 10, 10, 0, 10)},
		{"a point on a side, no limit", square, -1, square, nil},
		{"the smallest limit", square, math.MinInt, square, nil},
		{"corners beyond the limit", square, 99, pts(0, 0, 10, 0, 10, 10, 0, 10), pts(0, 0, 10, 0, 10, 10, 0, 10)},
		{"corners within the limit", square, 100, pts(0, 10, 10, 0, 10, 10), pts(0, 0, 10, 0, 10, 10, 0, 10)},
		{"the greatest limit", square, math.MaxInt, pts(0, 10, 10, 0, 10, 10), pts(0, 0, 10, 0, 10, 10, 0, 10)},
		{"a triangle", pts(0, 0, 9, 0, 9, 9), math.MaxInt, pts(0, 0, 9, 0, 9, 9), nil},
		{"the square of chapter 27 at zoom 7", pts(100, 100, 110, 100, 110, 110, 100, 110), 0, pts(100, 100, 110, 100, 110, 110, 100, 110), nil},
		{"the square of chapter 27 at zoom 2", pts(100, 100, 110, 100, 110, 110, 100, 110), 1023, pts(100, 110, 110, 100, 110, 110), pts(100, 110, 110, 100, 110, 110)},
		{"the smallest size first, wherever it is", pts(0, 0, 10, 0, 10, 8, 9, 10, 0, 10), 20, pts(0, 0, 10, 0, 9, 10, 0, 10), pts(0, 0, 10, 0, 9, 10, 0, 10)},
		{"a size that grows", pts(0, 0, 20, 0, 20, 10, 18, 18, 10, 20, 0, 20), 60, pts(0, 0, 20, 0, 18, 18, 0, 20), pts(0, 0, 20, 0, 20, 10, 18, 18, 0, 20)},
		{"the smallest point of equal sizes", pts(0, 0, 4, 0, 6, 2, 6, 6, 2, 6, 0, 4), 8, pts(0, 0, 6, 2, 6, 6, 2, 6), pts(0, 0, 4, 0, 6, 2, 6, 6, 2, 6)},
	} {
		m := of(t, x.ring)
		if got, want := Mesh(m, x.limit), of(t, x.want); !mesh.Same(got, want) {
			t.Errorf("Mesh of %s is %v, not %v", x.name, got, want)
		}
		first := m
		if x.first != nil {
			first = of(t, x.first)
		}
		if got, ok := Step(m, x.limit); !mesh.Same(got, first) || ok != (x.first != nil) {
			t.Errorf("Step of %s is %v, %v, not %v", x.name, got, ok, first)
		}
	}
}

// A point can be removed after the one in its way, and a new edge can be in the way of another point.
func TestP25_2Order(t *testing.T) {
	// The corner {50 0} of the first one, of size 200, has the corner {50 5} of the second one, of size 360, in its way.
	bumps := [][]api.Point{pts(0, 10, 40, 10, 50, 0, 60, 10, 100, 10, 100, 100, 0, 100), pts(50, 5, 54, 50, 80, 90, 20, 90, 46, 50)}
	for _, x := range []struct {
		name  string
		rings [][]api.Point
		limit int
		want  [][]api.Point
	}{
		{"a point in the way that is removed", bumps, 390, [][]api.Point{pts(0, 10, 100, 10, 100, 100, 0, 100), pts(54, 50, 80, 90, 20, 90)}},
		{"a point in the way that remains", bumps, 350, bumps},
		{"two areas with the same neighbours", [][]api.Point{pts(20, 0, 18, 10, 20, 20, 0, 10), pts(20, 0, 40, 10, 20, 20, 22, 10)}, math.MaxInt, [][]api.Point{pts(20, 0, 20, 20, 0, 10), pts(20, 0, 40, 10, 20, 20, 22, 10)}},
	} {
		if got, want := Mesh(of(t, x.rings...), x.limit), of(t, x.want...); !mesh.Same(got, want) {
			t.Errorf("Mesh of %s is %v, not %v", x.name, got, want)
		}
	}
}

func limits(r *rand.Rand) int {
	return []int{-1, 0, 3, 40, 400, 30000, 1000000, math.MaxInt}[r.Intn(8)]
}

func TestP25_2ByDefinition(t *testing.T) {
	steps := 0
	meshes(t, 250, 6, func(r *rand.Rand, m []api.Edge) {
		limit := limits(r)
		now := m
		for {
			next, more := step(now, limit)
			if got, ok := Step(now, limit); !mesh.Same(got, next) || ok != more {
				t.Fatalf("Step(%v, %d) is %v, %v, not %v, %v", now, limit, got, ok, next, more)
			}
			if !more {
				break
			}
			now = next
			steps++
		}
		if got := Mesh(m, limit); !mesh.Same(got, now) {
			t.Fatalf("Mesh(%v, %d) is %v, not %v", m, limit, got, now)
		}
	})
	if steps < 1000 {
		t.Errorf("there were only %d steps", steps)
	}
}

func TestP25_3Topology(t *testing.T) {
	removed, pairs := 0, 0
	meshes(t, 400, 9, func(r *rand.Rand, m []api.Edge) {
		limit := limits(r)
		got := Mesh(m, limit)
		if err := mesh.Check(got); err != api.OK {
			t.Fatalf("Check of Mesh(%v, %d), which is %v, is %d", m, limit, got, err)
		}
		adjacent, contains := mesh.Adjacent(m), mesh.Contains(m)
		if !slices.Equal(mesh.Adjacent(got), adjacent) || !slices.Equal(mesh.Contains(got), contains) {
			t.Fatalf("Mesh(%v, %d), which is %v, has other pairs of areas", m, limit, got)
		}
		pairs += len(adjacent) + len(contains)
		for area := range 8 {
			old, rings := mesh.Rings(m, area), mesh.Rings(got, area)
			if len(old) != len(rings) {
				t.Fatalf("Mesh(%v, %d) has the rings %v, not %v, of area %d", m, limit, rings, old, area)
			}
			for _, ring := range rings {
				if len(ring) < 3 {
					t.Fatalf("Mesh(%v, %d) has the ring %v", m, limit, ring)
				}
			}
		}
		was, is := ends(m), ends(got)
		for _, p := range is {
			if !slices.Contains(was, p) {
				t.Fatalf("Mesh(%v, %d) has the new point %v", m, limit, p)
			}
		}
		removed += len(was) - len(is)
	})
	if removed < 3000 || pairs < 1000 {
		t.Errorf("only %d points were removed, and there are only %d pairs", removed, pairs)
	}
}

func TestP25_3Limits(t *testing.T) {
	meshes(t, 200, 8, func(r *rand.Rand, m []api.Edge) {
		a, b := limits(r), limits(r)
		a, b = min(a, b), max(a, b)
		first := Mesh(m, a)
		if again := Mesh(first, a); !mesh.Same(first, again) {
			t.Fatalf("Mesh of %v with limit %d is %v, and again it is %v", m, a, first, again)
		}
		if second := Mesh(first, b); len(ends(second)) > len(ends(first)) {
			t.Fatalf("Mesh of %v with limit %d has more points than with limit %d", m, b, a)
		}
	})
}

// A mesh with as many points as a dataset may have.
func TestP25_3Large(t *testing.T) {
	r := rand.New(rand.NewSource(2))
	m := randomMesh(t, r, 150, 400, 200, parts, false)
	if len(m) < 5000 {
		t.Fatalf("the mesh has %d edges only", len(m))
	}
	for _, limit := range []int{1023, 16383, math.MaxInt} {
		got := Mesh(m, limit)
		if mesh.Check(got) != api.OK || len(got) >= len(m) || !slices.Equal(mesh.Adjacent(got), mesh.Adjacent(m)) || !slices.Equal(mesh.Contains(got), mesh.Contains(m)) {
			t.Errorf("the %d edges of Mesh with the limit %d, of %d, are wrong", len(got), limit, len(m))
		}
		if next, ok := Step(got, limit); ok || !mesh.Same(next, got) {
			t.Errorf("Mesh with the limit %d leaves a removable point", limit)
		}
	}
}

func TestP25_Aliasing(t *testing.T) {
	full := of(t, pts(0, 0, 10, 0, 11, 5, 10, 10, 0, 10), pts(10, 0, 20, 0, 20, 10, 10, 10, 11, 5))
	full = append(full, full[0])
	m := full[:len(full)-1]
	saved := deep(full)
	bad := deep(full)
	savedBad := deep(bad)
	spoil := func(l []api.Edge) {
		for i, e := range l {
			for k := range e.Left {
				e.Left[k] = 77
			}
			for k := range e.Right {
				e.Right[k] = 77
			}
			l[i] = api.Edge{}
		}
		_ = append(l, api.Edge{Left: []int{9}})
	}
	Size(m, at(0, 0))
	Removable(m, at(0, 0))
	for _, p := range []api.Point{at(11, 5), at(10, 0), at(99, 99)} {
		spoil(Remove(m, p))
	}
	for _, limit := range []int{-1, 0, 10, math.MaxInt} {
		l, _ := Step(m, limit)
		spoil(l)
		spoil(Mesh(m, limit))
		l, _ = Step(bad, limit)
		spoil(l)
		spoil(Mesh(bad, limit))
	}
	spoil(Remove(bad, at(0, 0)))
	clear(Points(m))
	if !mesh.Same(full, saved) || !mesh.Same(bad, savedBad) {
		t.Errorf("the arguments became %v and %v", full, bad)
	}
	// The lists of a result do not share memory with each other either.
	got := Mesh(m, 10)
	want := deep(got)
	for i := range got {
		_ = append(got[i].Left, 5)
		_ = append(got[i].Right, 5)
	}
	if !mesh.Same(got, want) {
		t.Error("lists of areas share memory")
	}
}
