package alter

import (
	"cmp"
	"math"
	"math/rand"
	"slices"
	"testing"

	"mapmaker/api"
	"mapmaker/contract"
	"mapmaker/custom"
	"mapmaker/dijkstra"
	"mapmaker/order"
)

// of returns the graph with n vertices and the arcs from and to the vertices in turn.
func of(n int, ends ...int) api.Graph {
	g := api.Graph{N: n}
	for i := 0; i < len(ends); i += 2 {
		g.Arcs = append(g.Arcs, api.Arc{From: ends[i], To: ends[i+1]})
	}
	return g
}

func metric(t *testing.T, g api.Graph, w ...int) *custom.Metric {
	t.Helper()
	h, err := contract.New(g, order.MinDegree(g))
	if h == nil || err != api.OK {
		t.Fatalf("contract.New(%v) returns %d", g, err)
	}
	m, err := custom.New(h, w)
	if m == nil || err != api.OK {
		t.Fatalf("custom.New(%v, %v) returns %d", g, w, err)
	}
	return m
}

// example has disjoint paths of the costs 10 and 12 from 0 to 3.
func example(t *testing.T) *custom.Metric {
	return metric(t, of(4, 0, 1, 1, 3, 0, 2, 2, 3), 4, 6, 6, 6)
}

func samePaths(a, b [][]int) bool {
	return slices.EqualFunc(a, b, func(p, q []int) bool { return slices.Equal(p, q) })
}

func TestP44_1Check(t *testing.T) {
	for _, x := range []struct {
		o    Options
		want api.Errno
	}{
		{Options{Most: 1}, api.OK}, {Options{8, 200, 100}, api.OK}, {Options{4, 25, 50}, api.OK},
		{Options{}, api.ErrRange}, {Options{9, 0, 0}, api.ErrRange}, {Options{-1, 0, 0}, api.ErrRange}, {Options{math.MinInt, 0, 0}, api.ErrRange}, {Options{math.MaxInt, 0, 0}, api.ErrRange},
		{Options{1, -1, 0}, api.ErrRange}, {Options{1, 201, 0}, api.ErrRange}, {Options{1, math.MinInt, 0}, api.ErrRange}, {Options{1, math.MaxInt, 0}, api.ErrRange},
		{Options{1, 0, -1}, api.ErrRange}, {Options{1, 0, 101}, api.ErrRange}, {Options{1, 0, math.MinInt}, api.ErrRange}, {Options{1, 0, math.MaxInt}, api.ErrRange},
	} {
		if got := Check(x.o); got != x.want {
			t.Errorf("Check(%v) is %d, not %d", x.o, got, x.want)
		}
	}
}

func TestP44_1Tree(t *testing.T) {
	for _, x := range []struct {
		name     string
		g        api.Graph
		w        []int
		s        int
		from, to []int
	}{
		{"the example", of(4, 0, 1, 1, 3, 0, 2, 2, 3), []int{4, 6, 6, 6}, 0, []int{-1, 0, 2, 1}, []int{-1, -1, -1, -1}},
		{"the end of the example", of(4, 0, 1, 1, 3, 0, 2, 2, 3), []int{4, 6, 6, 6}, 3, []int{-1, -1, -1, -1}, []int{0, 1, 3, -1}},
		{"one vertex", of(1, 0, 0), []int{1}, 0, []int{-1}, []int{-1}},
		{"parallel arcs", of(2, 0, 1, 0, 1, 0, 1, 1, 0), []int{3, 2, 2, 1}, 0, []int{-1, 1}, []int{-1, 3}},
		{"closed arcs", of(2, 0, 1, 0, 1, 1, 0), []int{-1, 7, -1}, 0, []int{-1, 1}, []int{-1, -1}},
		{"ways that are equally long", of(4, 2, 3, 0, 2, 1, 3, 0, 1), []int{1, 1, 1, 1}, 0, []int{-1, 3, 1, 0}, []int{-1, -1, -1, -1}},
		{"a longer way by smaller arcs", of(3, 0, 1, 1, 2, 0, 2), []int{1, 1, 1}, 0, []int{-1, 0, 2}, []int{-1, -1, -1}},
		{"a circle", of(3, 0, 1, 1, 2, 2, 0), []int{1, 1, 1}, 1, []int{2, -1, 1}, []int{0, -1, 2}},
		{"loops", of(2, 0, 0, 1, 1, 0, 1, 1, 1), []int{1, 1, 5, 1}, 0, []int{-1, 2}, []int{-1, -1}},
		{"the greatest weights", of(3, 0, 1, 1, 2), []int{api.MaxWeight, api.MaxWeight}, 0, []int{-1, 0, 1}, []int{-1, -1, -1}},
	} {
		m := metric(t, x.g, x.w...)
		if got, err := Tree(m, x.s, false); !slices.Equal(got, x.from) || err != api.OK {
			t.Errorf("%s: Tree from %d is %v, %d, not %v", x.name, x.s, got, err, x.from)
		}
		if got, err := Tree(m, x.s, true); !slices.Equal(got, x.to) || err != api.OK {
			t.Errorf("%s: Tree to %d is %v, %d, not %v", x.name, x.s, got, err, x.to)
		}
	}
}

func TestP44_Errors(t *testing.T) {
	m := example(t)
	zero := metric(t, of(3, 0, 1, 2, 2), 4, 0)
	empty := metric(t, of(0))
	good, bad := Options{Most: 2}, Options{}
	for _, x := range []struct {
		m       *custom.Metric
		s, v, t int
		tree    api.Errno // for s
		via     api.Errno
		routes  api.Errno // from s to t
	}{
		{nil, 0, 0, 0, api.ErrArg, api.ErrArg, api.ErrArg}, {nil, -1, -1, -1, api.ErrArg, api.ErrArg, api.ErrArg},
		{zero, 0, 1, 1, api.ErrWeight, api.ErrWeight, api.ErrWeight}, {zero, 9, 1, 1, api.ErrWeight, api.ErrWeight, api.ErrWeight}, {zero, 0, 9, 9, api.ErrWeight, api.ErrWeight, api.ErrWeight},
		{m, -1, 0, 0, api.ErrRange, api.ErrRange, api.ErrRange}, {m, 4, 0, 0, api.ErrRange, api.ErrRange, api.ErrRange}, {m, math.MinInt, 0, 0, api.ErrRange, api.ErrRange, api.ErrRange}, {m, math.MaxInt, 0, 0, api.ErrRange, api.ErrRange, api.ErrRange},
		{m, 0, -1, 3, api.OK, api.ErrRange, api.OK}, {m, 0, 4, 3, api.OK, api.ErrRange, api.OK}, {m, 0, math.MaxInt, 3, api.OK, api.ErrRange, api.OK},
		{m, 0, 1, -1, api.OK, api.ErrRange, api.ErrRange}, {m, 0, 1, 4, api.OK, api.ErrRange, api.ErrRange}, {m, 0, 1, math.MinInt, api.OK, api.ErrRange, api.ErrRange}, {m, 3, 0, 4, api.OK, api.ErrRange, api.ErrRange},
		{m, 3, 3, 0, api.OK, api.ErrPath, api.ErrPath}, {m, 1, 0, 3, api.OK, api.ErrPath, api.OK}, {m, 0, 3, 1, api.OK, api.ErrPath, api.OK}, {m, 1, 0, 2, api.OK, api.ErrPath, api.ErrPath},
		{m, 0, 1, 3, api.OK, api.OK, api.OK}, {m, 2, 2, 2, api.OK, api.OK, api.OK},
		{empty, 0, 0, 0, api.ErrRange, api.ErrRange, api.ErrRange}, {empty, -1, 0, 0, api.ErrRange, api.ErrRange, api.ErrRange},
	} {
		for _, back := range []bool{false, true} {
			if l, err := Tree(x.m, x.s, back); err != x.tree || err != api.OK && len(l) != 0 {
				t.Errorf("Tree(%d, %v) is %v, %d, not %d", x.s, back, l, err, x.tree)
			}
		}
		if p, n, err := Via(x.m, x.s, x.v, x.t); err != x.via || err != api.OK && (len(p) != 0 || n != 0) {
			t.Errorf("Via(%d, %d, %d) is %v, %d, %d, not %d", x.s, x.v, x.t, p, n, err, x.via)
		}
		if l, err := Routes(x.m, x.s, x.t, good); err != x.routes || err != api.OK && len(l) != 0 {
			t.Errorf("Routes(%d, %d) is %v, %d, not %d", x.s, x.t, l, err, x.routes)
		}
		if l, err := Routes(x.m, x.s, x.t, bad); err != api.ErrRange || len(l) != 0 {
			t.Errorf("Routes(%d, %d) with bad options is %v, %d", x.s, x.t, l, err)
		}
	}
}

func TestP44_2Via(t *testing.T) {
	m := metric(t, of(5, 0, 1, 1, 2, 2, 1, 1, 3, 3, 0), 1, 2, 3, 4, 5)
	for _, x := range []struct {
		s, v, t int
		path    []int
		cost    int
	}{
		{0, 2, 3, []int{0, 1, 2, 3}, 10}, {0, 0, 3, []int{0, 3}, 5}, {0, 3, 3, []int{0, 3}, 5}, {0, 1, 3, []int{0, 3}, 5}, {0, 0, 0, nil, 0}, {0, 3, 0, []int{0, 3, 4}, 10}, {4, 4, 4, nil, 0}, {1, 0, 1, []int{3, 4, 0}, 10}, {1, 2, 1, []int{1, 2}, 5}, {2, 2, 0, []int{2, 3, 4}, 12},
	} {
		if p, n, err := Via(m, x.s, x.v, x.t); !slices.Equal(p, x.path) || n != x.cost || err != api.OK {
			t.Errorf("Via(%d, %d, %d) is %v, %d, %d, not %v, %d", x.s, x.v, x.t, p, n, err, x.path, x.cost)
		}
	}
}

func TestP44_3Example(t *testing.T) {
	m := example(t)
	for _, x := range []struct {
		o    Options
		want [][]int
	}{
		{Options{8, 20, 0}, [][]int{{0, 1}, {2, 3}}}, {Options{8, 19, 0}, [][]int{{0, 1}}}, {Options{2, 200, 0}, [][]int{{0, 1}, {2, 3}}}, {Options{1, 200, 0}, [][]int{{0, 1}}}, {Options{1, 200, 100}, [][]int{{0, 1}}},
		// The path over 0, 1 and 3 is the first one, which shares all of itself.
		{Options{2, 20, 100}, [][]int{{0, 1}, {0, 1}}}, {Options{8, 20, 100}, [][]int{{0, 1}, {0, 1}, {0, 1}, {0, 1}, {2, 3}}}, {Options{8, 20, 99}, [][]int{{0, 1}, {2, 3}}}, {Options{8, 0, 99}, [][]int{{0, 1}}},
	} {
		if got, err := Routes(m, 0, 3, x.o); !samePaths(got, x.want) || err != api.OK {
			t.Errorf("Routes with %v is %v, %d, not %v", x.o, got, err, x.want)
		}
	}
	for v := range 4 {
		if got, err := Routes(m, v, v, Options{8, 200, 100}); !samePaths(got, [][]int{nil}) || err != api.OK {
			t.Errorf("Routes from %d to itself is %v, %d", v, got, err)
		}
	}
}

// The routes from 0 to 4 share the first arc, which has half of the distance; one over 5 returns to 1.
func TestP44_3Share(t *testing.T) {
	g := of(6, 0, 1, 1, 2, 2, 4, 1, 3, 3, 4, 1, 5, 5, 1)
	m := metric(t, g, 10, 4, 6, 6, 6, 1, 1)
	for _, x := range []struct {
		o    Options
		want int
	}{{Options{8, 10, 50}, 2}, {Options{8, 10, 49}, 1}, {Options{8, 9, 50}, 1}, {Options{8, 200, 99}, 2}, {Options{8, 200, 0}, 1}} {
		if got, err := Routes(m, 0, 4, x.o); !samePaths(got, [][]int{{0, 1, 2}, {0, 3, 4}}[:x.want]) || err != api.OK {
			t.Errorf("Routes with %v is %v, %d, not %d routes", x.o, got, err, x.want)
		}
	}
	// The path over 3 shares 10 and 12 with the others, which is too much in sum.
	m = metric(t, of(5, 0, 1, 1, 4, 0, 2, 2, 4, 1, 3, 3, 2), 10, 10, 12, 12, 1, 1)
	two := [][]int{{0, 1}, {2, 3}}
	for _, x := range []struct {
		share int
		want  [][]int
	}{{0, two}, {60, two}, {99, two}, {100, [][]int{{0, 1}, {0, 1}, {0, 1}, {0, 1}, {2, 3}}}} {
		if got, err := Routes(m, 0, 4, Options{8, 20, x.share}); !samePaths(got, x.want) || err != api.OK {
			t.Errorf("Routes with the share %d is %v, %d, not %v", x.share, got, err, x.want)
		}
	}
}

// Candidates of equal cost are in the order of their vertices.
func TestP44_3Ties(t *testing.T) {
	m := metric(t, of(5, 0, 3, 3, 4, 0, 2, 2, 4, 0, 1, 1, 4), 5, 6, 5, 6, 5, 6)
	if got, err := Routes(m, 0, 4, Options{8, 0, 0}); !samePaths(got, [][]int{{0, 1}, {4, 5}, {2, 3}}) || err != api.OK {
		t.Errorf("Routes is %v, %d", got, err)
	}
	if got, err := Routes(m, 0, 4, Options{2, 0, 0}); !samePaths(got, [][]int{{0, 1}, {4, 5}}) || err != api.OK {
		t.Errorf("two Routes are %v, %d", got, err)
	}
	// The costs are 11, 12 and 13.
	m = metric(t, of(5, 0, 3, 3, 4, 0, 2, 2, 4, 0, 1, 1, 4), 5, 6, 5, 7, 5, 8)
	for _, x := range []struct{ stretch, want int }{{0, 1}, {9, 1}, {10, 2}, {18, 2}, {19, 3}, {200, 3}} {
		if got, err := Routes(m, 0, 4, Options{8, x.stretch, 0}); !samePaths(got, [][]int{{0, 1}, {2, 3}, {4, 5}}[:x.want]) || err != api.OK {
			t.Errorf("Routes with the stretch %d is %v, %d, not %d", x.stretch, got, err, x.want)
		}
	}
}

// shortestPaths returns all shortest paths from s to v, by following all paths without repeated vertices.
func shortestPaths(g api.Graph, w []int, s, v int) (paths [][]int, cost int) {
	cost = api.Inf
	visited := make([]bool, g.N)
	var path []int
	var follow func(at, sum int)
	follow = func(at, sum int) {
		if at == v {
			if sum < cost {
				paths, cost = nil, sum
			}
			if sum == cost {
				paths = append(paths, slices.Clone(path))
			}
			return
		}
		visited[at] = true
		for i, a := range g.Arcs {
			if a.From == at && w[i] >= 0 && !visited[a.To] {
				path = append(path, i)
				follow(a.To, sum+w[i])
				path = path[:len(path)-1]
			}
		}
		visited[at] = false
	}
	follow(s, 0)
	return paths, cost
}

// definedTree returns the smallest arcs by all shortest paths.
func definedTree(g api.Graph, w []int, s int, back bool) []int {
	out := slices.Repeat([]int{-1}, g.N)
	for v := range out {
		if v == s {
			continue
		}
		from, to := s, v
		if back {
			from, to = v, s
		}
		paths, _ := shortestPaths(g, w, from, to)
		for _, p := range paths {
			arc := p[len(p)-1]
			if back {
				arc = p[0]
			}
			if out[v] < 0 || arc < out[v] {
				out[v] = arc
			}
		}
	}
	return out
}

// definedVia returns the path over v, and false if there is none.
func definedVia(g api.Graph, w []int, s, v, t int) (path []int, cost int, ok bool) {
	_, first := shortestPaths(g, w, s, v)
	_, second := shortestPaths(g, w, v, t)
	if first == api.Inf || second == api.Inf {
		return nil, 0, false
	}
	before, after := definedTree(g, w, s, false), definedTree(g, w, t, true)
	for u := v; u != s; u = g.Arcs[before[u]].From {
		path = append([]int{before[u]}, path...)
	}
	for u := v; u != t; u = g.Arcs[after[u]].To {
		path = append(path, after[u])
	}
	return path, first + second, true
}

// candidate is a path over a vertex.
type candidate struct {
	vertex, cost int
	path         []int
}

// definedRoutes returns the accepted paths; s and t differ, and there is a path.
func definedRoutes(g api.Graph, w []int, s, t int, o Options) [][]int {
	first, dist, _ := definedVia(g, w, s, t, t)
	out := [][]int{first}
	var l []candidate
	for v := range g.N {
		if path, cost, ok := definedVia(g, w, s, v, t); ok {
			l = append(l, candidate{v, cost, path})
		}
	}
	slices.SortFunc(l, func(a, b candidate) int {
		return cmp.Or(cmp.Compare(a.cost, b.cost), cmp.Compare(a.vertex, b.vertex))
	})
	for _, c := range l {
		visits := map[int]int{s: 1}
		twice, shared := false, 0
		for _, arc := range c.path {
			visits[g.Arcs[arc].To]++
			twice = twice || visits[g.Arcs[arc].To] > 1
			if slices.Contains(slices.Concat(out...), arc) {
				shared += w[arc]
			}
		}
		if len(out) < o.Most && c.cost*100 <= (100+o.Stretch)*dist && !twice && shared*100 <= o.Share*dist {
			out = append(out, c.path)
		}
	}
	return out
}

// random returns a graph with loops and parallel arcs, and small weights of which some are closed.
func random(r *rand.Rand) (api.Graph, []int) {
	g := api.Graph{N: 1 + r.Intn(6)}
	var w []int
	for range r.Intn(3 * g.N) {
		g.Arcs = append(g.Arcs, api.Arc{From: r.Intn(g.N), To: r.Intn(g.N)})
		w = append(w, randomWeight(r))
	}
	return g, w
}

func randomWeight(r *rand.Rand) int {
	if r.Intn(8) == 0 {
		return -1
	}
	return 1 + r.Intn(4)
}

func checkAll(t *testing.T, r *rand.Rand, m *custom.Metric) (alternatives int) {
	t.Helper()
	g, w := m.Hier().Graph(), m.Weights()
	s, v, end := r.Intn(g.N), r.Intn(g.N), r.Intn(g.N)
	for _, back := range []bool{false, true} {
		if got, err := Tree(m, s, back); !slices.Equal(got, definedTree(g, w, s, back)) || err != api.OK {
			t.Fatalf("Tree(%d, %v) of %v, %v is %v, %d, not %v", s, back, g, w, got, err, definedTree(g, w, s, back))
		}
	}
	path, cost, ok := definedVia(g, w, s, v, end)
	want := api.OK
	if !ok {
		want = api.ErrPath
	}
	if p, n, err := Via(m, s, v, end); !slices.Equal(p, path) || n != cost || err != want {
		t.Fatalf("Via(%d, %d, %d) of %v, %v is %v, %d, %d, not %v, %d, %d", s, v, end, g, w, p, n, err, path, cost, want)
	}
	if _, _, ok := definedVia(g, w, s, end, end); !ok || s == end {
		return 0
	}
	o := Options{1 + r.Intn(8), r.Intn(201), []int{0, 100, r.Intn(101), r.Intn(101)}[r.Intn(4)]}
	routes := definedRoutes(g, w, s, end, o)
	if got, err := Routes(m, s, end, o); !samePaths(got, routes) || err != api.OK {
		t.Fatalf("Routes(%d, %d, %v) of %v, %v is %v, %d, not %v", s, end, o, g, w, got, err, routes)
	}
	return len(routes) - 1
}

func TestP44_ByDefinition(t *testing.T) {
	r := rand.New(rand.NewSource(1))
	alternatives := 0
	for range 6000 {
		g, w := random(r)
		alternatives += checkAll(t, r, metric(t, g, w...))
	}
	if alternatives < 500 {
		t.Errorf("there are %d alternatives only", alternatives)
	}
}

// P6 of DOC.md: the routes are those of the changed weights.
func TestP44_Changes(t *testing.T) {
	r := rand.New(rand.NewSource(2))
	for range 300 {
		g, w := random(r)
		m := metric(t, g, w...)
		for range len(w) {
			m.Set([]int{r.Intn(len(w))}, []int{randomWeight(r)})
			checkAll(t, r, m)
		}
	}
}

// streets returns a graph of n by n vertices with arcs between neighbours in both directions, and positive weights.
func streets(r *rand.Rand, n, most int) (api.Graph, []int) {
	g := api.Graph{N: n * n}
	for v := range n * n {
		if v%n+1 < n {
			g.Arcs = append(g.Arcs, api.Arc{From: v, To: v + 1}, api.Arc{From: v + 1, To: v})
		}
		if v+n < n*n {
			g.Arcs = append(g.Arcs, api.Arc{From: v, To: v + n}, api.Arc{From: v + n, To: v})
		}
	}
	var w []int
	for range g.Arcs {
		w = append(w, 1+r.Intn(most))
	}
	return g, w
}

func TestP44_4Routes(t *testing.T) {
	r := rand.New(rand.NewSource(3))
	found := 0
	for _, most := range []int{1, 2, 10, 1000, api.MaxWeight} {
		g, w := streets(r, 12, most)
		m := metric(t, g, w...)
		for range 20 {
			s, end := r.Intn(g.N), r.Intn(g.N)
			o := Options{1 + r.Intn(8), r.Intn(101), r.Intn(100)}
			routes, err := Routes(m, s, end, o)
			dist, _ := dijkstra.From(g, w, s)
			if err != api.OK || len(routes) < 1 || len(routes) > o.Most {
				t.Fatalf("Routes(%d, %d, %v) is %v, %d", s, end, o, routes, err)
			}
			used := map[int]bool{}
			for i, p := range routes {
				cost, ok := dijkstra.Cost(g, w, s, end, p)
				if !ok || i == 0 && cost != dist[end] || 100*cost > (100+o.Stretch)*dist[end] {
					t.Fatalf("the route %d, %v, from %d to %d with %v costs %d; the distance is %d", i, p, s, end, o, cost, dist[end])
				}
				visited, shared := map[int]bool{s: true}, 0
				for _, arc := range p {
					if visited[g.Arcs[arc].To] {
						t.Fatalf("the route %v has a vertex twice", p)
					}
					visited[g.Arcs[arc].To] = true
					if used[arc] {
						shared += w[arc]
					}
				}
				if i > 0 && 100*shared > o.Share*dist[end] {
					t.Fatalf("the route %v shares %d of %d", p, shared, dist[end])
				}
				for _, arc := range p {
					used[arc] = true
				}
				for _, q := range routes[:i] {
					if slices.Equal(p, q) {
						t.Fatalf("the route %v is returned twice", p)
					}
				}
				found += i
			}
		}
	}
	if found < 100 {
		t.Errorf("only %d alternatives are found", found)
	}
}

// On long chains of the greatest weights nothing overflows.
func TestP44_3Chains(t *testing.T) {
	const n = 2000
	g := api.Graph{N: 2*n + 3}
	var w []int
	last := g.N - 1
	for side := range 2 {
		at := 0
		for i := range n {
			next := 1 + side*n + i
			g.Arcs, w = append(g.Arcs, api.Arc{From: at, To: next}), append(w, api.MaxWeight)
			at = next
		}
		g.Arcs, w = append(g.Arcs, api.Arc{From: at, To: last}), append(w, api.MaxWeight-1+side)
	}
	m := metric(t, g, w...)
	for _, x := range []struct{ stretch, want int }{{0, 1}, {1, 2}, {200, 2}} {
		got, err := Routes(m, 0, last, Options{8, x.stretch, 99})
		if err != api.OK || len(got) != x.want || len(got[0]) != n+1 || got[0][0] != 0 {
			t.Errorf("Routes with the stretch %d are %d, %d, not %d", x.stretch, len(got), err, x.want)
		}
	}
	if p, cost, err := Via(m, 0, n+1, last); len(p) != n+1 || cost != (n+1)*api.MaxWeight || err != api.OK {
		t.Errorf("Via costs %d, %d", cost, err)
	}
}

func TestP44_Aliasing(t *testing.T) {
	m := example(t)
	o := Options{8, 20, 100}
	tree, _ := Tree(m, 0, false)
	path, _, _ := Via(m, 0, 2, 3)
	routes, _ := Routes(m, 0, 3, o)
	want := [][]int{{0, 1}, {0, 1}, {0, 1}, {0, 1}, {2, 3}}
	// No two of the routes share memory.
	clear(routes[0])
	if !samePaths(routes[1:], want[1:]) {
		t.Errorf("clearing a route clears others: %v", routes)
	}
	clear(tree)
	clear(path)
	if got, _ := Routes(m, 0, 3, o); !samePaths(got, want) || !slices.Equal(m.Weights(), []int{4, 6, 6, 6}) {
		t.Errorf("clearing results changes the metric: %v", got)
	}
}
