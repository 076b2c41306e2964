package dijkstra

import (
	"math"
	"math/rand"
	"slices"
	"testing"

	"mapmaker/api"
	"mapmaker/graph"
)

// of returns the graph with n vertices and the weights of its arcs, which are given as from, to and weight in turn.
func of(n int, arcs ...int) (api.Graph, []int) {
	g := api.Graph{N: n}
	var w []int
	for i := 0; i < len(arcs); i += 3 {
		g.Arcs = append(g.Arcs, api.Arc{From: arcs[i], To: arcs[i+1]})
		w = append(w, arcs[i+2])
	}
	return g, w
}

// random returns a graph of a few vertices with loops, parallel arcs, closed arcs and arcs of weight 0.
func random(r *rand.Rand) (api.Graph, []int) {
	g := api.Graph{N: 1 + r.Intn(8)}
	var w []int
	for range r.Intn(20) {
		g.Arcs = append(g.Arcs, api.Arc{From: r.Intn(g.N), To: r.Intn(g.N)})
		w = append(w, []int{-1, 0, 0, 1, 2, 3, 7, api.MaxWeight}[r.Intn(8)])
	}
	return g, w
}

// distances returns the distances between all vertices by stepping over every third vertex in turn.
func distances(g api.Graph, w []int) [][]int {
	out := make([][]int, g.N)
	for i := range out {
		out[i] = slices.Repeat([]int{api.Inf}, g.N)
		out[i][i] = 0
	}
	for i, a := range g.Arcs {
		if w[i] >= 0 {
			out[a.From][a.To] = min(out[a.From][a.To], w[i])
		}
	}
	for k := range g.N {
		for i := range g.N {
			for j := range g.N {
				out[i][j] = min(out[i][j], out[i][k]+out[k][j])
			}
		}
	}
	return out
}

// column returns the distances to t.
func column(all [][]int, t int) (out []int) {
	for _, row := range all {
		out = append(out, row[t])
	}
	return out
}

// invalid is a graph or a weight set with its first error.
type invalid struct {
	g   api.Graph
	w   []int
	err api.Errno
}

func invalids() (out []invalid) {
	add := func(err api.Errno, n int, arcs ...int) {
		g, w := of(n, arcs...)
		out = append(out, invalid{g, w, err})
	}
	add(api.ErrLong, -1)
	add(api.ErrLong, 1048577)
	add(api.ErrLong, math.MaxInt)
	add(api.ErrRange, 0, 0, 0, 1)
	add(api.ErrRange, 2, 0, 2, 1)
	add(api.ErrRange, 2, 0, 1, 1, -1, 0, 1)
	add(api.ErrWeight, 2, 0, 1, -2)
	add(api.ErrWeight, 2, 0, 1, api.MaxWeight+1)
	add(api.ErrWeight, 2, 0, 1, 5, 1, 0, math.MinInt)
	add(api.ErrWeight, 2, 0, 1, math.MaxInt, 1, 0, 5)
	g, w := of(2, 0, 1, 5, 1, 0, 5)
	out = append(out, invalid{g, nil, api.ErrWeight}, invalid{g, w[:1], api.ErrWeight}, invalid{g, []int{5, 5, 5}, api.ErrWeight}, invalid{api.Graph{N: 2}, w, api.ErrWeight})
	// The graph comes before its weights.
	add(api.ErrLong, -1, 0, 0, -2)
	add(api.ErrRange, 2, 0, 1, -2, 0, 2, 1)
	return append(out, invalid{api.Graph{N: 1, Arcs: []api.Arc{{To: 1}}}, nil, api.ErrRange}, invalid{api.Graph{N: 1048577}, w, api.ErrLong})
}

func TestP38_1Check(t *testing.T) {
	for i, y := range invalids() {
		if err := Check(y.g, y.w); err != y.err {
			t.Errorf("%d: Check is %d, not %d", i, err, y.err)
		}
	}
	if err := Check(api.Graph{}, nil); err != api.OK {
		t.Errorf("Check of no vertices is %d", err)
	}
	if err := Check(of(2, 0, 1, -1, 1, 0, 0, 1, 1, api.MaxWeight, 0, 1, 1)); err != api.OK {
		t.Errorf("Check of a valid weight set is %d", err)
	}
}

func TestP38_1Invalid(t *testing.T) {
	for i, y := range invalids() {
		for _, s := range []int{0, -1, 7} {
			if l, err := From(y.g, y.w, s); l != nil || err != y.err {
				t.Errorf("%d: From is %v, %d, not nil, %d", i, l, err, y.err)
			}
			if l, err := To(y.g, y.w, s); l != nil || err != y.err {
				t.Errorf("%d: To is %v, %d, not nil, %d", i, l, err, y.err)
			}
		}
	}
	g, w := of(2, 0, 1, 5)
	for _, s := range []int{-1, 2, math.MinInt, math.MaxInt} {
		if l, err := From(g, w, s); l != nil || err != api.ErrRange {
			t.Errorf("From(%d) is %v, %d", s, l, err)
		}
		if l, err := To(g, w, s); l != nil || err != api.ErrRange {
			t.Errorf("To(%d) is %v, %d", s, l, err)
		}
	}
	if l, err := From(api.Graph{}, nil, 0); l != nil || err != api.ErrRange {
		t.Errorf("From in a graph without vertices is %v, %d", l, err)
	}
	if l, err := To(api.Graph{}, nil, 0); l != nil || err != api.ErrRange {
		t.Errorf("To in a graph without vertices is %v, %d", l, err)
	}
}

func TestP38_1Distances(t *testing.T) {
	g, w := of(3, 0, 1, 5, 0, 2, 1, 2, 1, 1)
	if l, err := From(g, w, 0); !slices.Equal(l, []int{0, 2, 1}) || err != api.OK {
		t.Errorf("From of the example is %v, %d", l, err)
	}
	if l, err := To(g, w, 1); !slices.Equal(l, []int{2, 0, 1}) || err != api.OK {
		t.Errorf("To of the example is %v, %d", l, err)
	}
	r := rand.New(rand.NewSource(1))
	for range 3000 {
		g, w := random(r)
		all := distances(g, w)
		for v := range g.N {
			if l, err := From(g, w, v); !slices.Equal(l, all[v]) || err != api.OK {
				t.Fatalf("From(%v, %v, %d) is %v, %d, not %v", g, w, v, l, err, all[v])
			}
			if l, err := To(g, w, v); !slices.Equal(l, column(all, v)) || err != api.OK {
				t.Fatalf("To(%v, %v, %d) is %v, %d, not %v", g, w, v, l, err, column(all, v))
			}
		}
	}
}

func TestP38_1Long(t *testing.T) {
	const n = 1048576
	g := api.Graph{N: n}
	for v := range n - 1 {
		g.Arcs = append(g.Arcs, api.Arc{From: v, To: v + 1})
	}
	w := slices.Repeat([]int{api.MaxWeight}, n-1)
	if l, err := From(g, w, 0); err != api.OK || len(l) != n || l[n-1] != (n-1)*api.MaxWeight {
		t.Errorf("From of a long line: %d", err)
	}
	if l, cost, err := Path(g, w, 1, n-1); err != api.OK || len(l) != n-2 || cost != (n-2)*api.MaxWeight || l[0] != 1 || l[n-3] != n-2 {
		t.Errorf("Path of a long line: %d arcs, %d, %d", len(l), cost, err)
	}
	if l, _ := From(g, w, n-1); l[n-1] != 0 || l[0] != api.Inf || l[n-2] != api.Inf {
		t.Error("a vertex before the last one can be reached from it")
	}
}

func TestP38_2Path(t *testing.T) {
	g, w := of(3, 0, 1, 5, 0, 2, 1, 2, 1, 1)
	if p, cost, err := Path(g, w, 0, 1); !slices.Equal(p, []int{1, 2}) || cost != 2 || err != api.OK {
		t.Errorf("Path of the example is %v, %d, %d", p, cost, err)
	}
	if p, cost, err := Path(g, w, 1, 1); len(p) != 0 || cost != 0 || err != api.OK {
		t.Errorf("Path from 1 to 1 is %v, %d, %d", p, cost, err)
	}
	if p, cost, err := Path(g, w, 1, 0); p != nil || cost != 0 || err != api.ErrPath {
		t.Errorf("Path from 1 to 0 is %v, %d, %d", p, cost, err)
	}
	r := rand.New(rand.NewSource(2))
	for range 3000 {
		g, w := random(r)
		all := distances(g, w)
		s, u := r.Intn(g.N), r.Intn(g.N)
		p, cost, err := Path(g, w, s, u)
		if all[s][u] == api.Inf {
			if p != nil || cost != 0 || err != api.ErrPath {
				t.Fatalf("Path(%v, %v, %d, %d) is %v, %d, %d", g, w, s, u, p, cost, err)
			}
			continue
		}
		if sum, ok := walk(g, w, s, u, p); err != api.OK || cost != all[s][u] || !ok || sum != cost {
			t.Fatalf("Path(%v, %v, %d, %d) is %v, %d, %d", g, w, s, u, p, cost, err)
		}
	}
}

func TestP38_2Invalid(t *testing.T) {
	for i, y := range invalids() {
		for _, s := range []int{0, -1, 7} {
			if p, cost, err := Path(y.g, y.w, s, s); p != nil || cost != 0 || err != y.err {
				t.Errorf("%d: Path is %v, %d, %d, not %d", i, p, cost, err, y.err)
			}
			if cost, ok := Cost(y.g, y.w, s, s, nil); cost != 0 || ok {
				t.Errorf("%d: Cost is %d, %v", i, cost, ok)
			}
		}
	}
	g, w := of(2, 0, 1, 5)
	for _, x := range [][2]int{{-1, 0}, {2, 0}, {0, -1}, {0, 2}, {-1, -1}, {math.MaxInt, 0}, {0, math.MinInt}, {1, 2}} {
		if p, cost, err := Path(g, w, x[0], x[1]); p != nil || cost != 0 || err != api.ErrRange {
			t.Errorf("Path from %d to %d is %v, %d, %d", x[0], x[1], p, cost, err)
		}
	}
}

// walk follows a path arc by arc.
func walk(g api.Graph, w []int, s, t int, path []int) (int, bool) {
	cost := 0
	for len(path) > 0 {
		i := path[0]
		if i < 0 || i > len(g.Arcs)-1 || w[i] < 0 || g.Arcs[i].From != s {
			return 0, false
		}
		s, cost, path = g.Arcs[i].To, cost+w[i], path[1:]
	}
	if s != t {
		return 0, false
	}
	return cost, true
}

func TestP38_2Cost(t *testing.T) {
	g, w := of(4, 0, 1, 3, 1, 2, 4, 0, 2, 9, 2, 0, -1, 3, 3, 0, 1, 0, api.MaxWeight)
	for _, y := range []struct {
		s, t int
		path []int
		cost int
		ok   bool
	}{
		{0, 2, []int{2}, 9, true}, {0, 2, []int{0, 1}, 7, true}, {0, 0, nil, 0, true}, {3, 3, []int{}, 0, true},
		{0, 2, []int{0, 5, 0, 1}, 10 + api.MaxWeight, true}, {3, 3, []int{4, 4, 4}, 0, true}, {3, 3, []int{4}, 0, true},
		{0, 1, nil, 0, false}, {0, 2, []int{1}, 0, false}, {0, 2, []int{0}, 0, false}, {0, 0, []int{2, 3}, 0, false}, {2, 0, []int{3}, 0, false},
		{0, 2, []int{1, 0}, 0, false}, {0, 2, []int{-1}, 0, false}, {0, 2, []int{6}, 0, false}, {0, 2, []int{0, 1, 6}, 0, false}, {0, 2, []int{math.MinInt}, 0, false}, {0, 2, []int{math.MaxInt}, 0, false},
		{0, 3, []int{2, 4}, 0, false}, {1, 2, []int{0, 1}, 0, false},
		{-1, -1, nil, 0, false}, {4, 4, nil, 0, false}, {0, 4, nil, 0, false}, {0, -1, []int{2}, 0, false},
	} {
		if cost, ok := Cost(g, w, y.s, y.t, y.path); cost != y.cost || ok != y.ok {
			t.Errorf("Cost from %d to %d of %v is %d, %v, not %d, %v", y.s, y.t, y.path, cost, ok, y.cost, y.ok)
		}
	}
	r := rand.New(rand.NewSource(3))
	good := 0
	for range 20000 {
		g, w := random(r)
		s, u := r.Intn(g.N), r.Intn(g.N)
		var path []int
		for range r.Intn(4) {
			path = append(path, r.Intn(len(g.Arcs)+1))
		}
		cost, ok := Cost(g, w, s, u, path)
		if want, wantOK := walk(g, w, s, u, path); cost != want || ok != wantOK {
			t.Fatalf("Cost(%v, %v, %d, %d, %v) is %d, %v, not %d, %v", g, w, s, u, path, cost, ok, want, wantOK)
		}
		if ok && len(path) > 0 {
			good++
		}
	}
	if good < 100 {
		t.Errorf("only %d paths", good)
	}
}

func TestP38_3Derived(t *testing.T) {
	r := rand.New(rand.NewSource(4))
	for range 1000 {
		g, w := random(r)
		a, b := r.Intn(g.N), r.Intn(g.N)
		from, _ := From(g, w, a)
		further, _ := From(g, w, b)
		for c := range g.N {
			if from[b] < api.Inf && further[c] < api.Inf && from[c] > from[b]+further[c] {
				t.Fatalf("from %d to %d is shorter over %d", a, c, b)
			}
			p, _, err := Path(g, w, a, c)
			cost, ok := Cost(g, w, a, c, p)
			if (err == api.OK) != (from[c] < api.Inf) || err == api.OK && (!ok || cost != from[c]) {
				t.Fatalf("the path from %d to %d is %v, %d, and the distance %d", a, c, p, err, from[c])
			}
		}
		to, _ := To(g, w, a)
		if back, _ := From(graph.Reverse(g), w, a); !slices.Equal(to, back) {
			t.Fatalf("To is %v, From of the reverse is %v", to, back)
		}
	}
}

func TestP38_Aliasing(t *testing.T) {
	g, w := of(3, 0, 1, 5, 0, 2, 1, 2, 1, 1)
	arcs, weights, path := slices.Clone(g.Arcs), slices.Clone(w), []int{1, 2}
	From(g, w, 0)
	To(g, w, 1)
	Path(g, w, 0, 1)
	Cost(g, w, 0, 1, path)
	if !slices.Equal(g.Arcs, arcs) || !slices.Equal(w, weights) || !slices.Equal(path, []int{1, 2}) {
		t.Error("the arguments have changed")
	}
}
