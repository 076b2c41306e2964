package sweep

import (
	"math"
	"math/rand"
	"slices"
	"testing"

	"mapmaker/api"
	"mapmaker/contract"
	"mapmaker/custom"
	"mapmaker/dijkstra"
	"mapmaker/order"
	"mapmaker/query"
)

// of returns the graph with n vertices and the arcs from and to the vertices in turn.
func of(n int, ends ...int) api.Graph {
	g := api.Graph{N: n}
	for i := 0; i < len(ends); i += 2 {
		g.Arcs = append(g.Arcs, api.Arc{From: ends[i], To: ends[i+1]})
	}
	return g
}

func metric(t *testing.T, g api.Graph, l, w []int) *custom.Metric {
	t.Helper()
	h, err := contract.New(g, l)
	if h == nil || err != api.OK {
		t.Fatalf("contract.New(%v, %v) returns %d", g, l, err)
	}
	m, err := custom.New(h, w)
	if m == nil || err != api.OK {
		t.Fatalf("custom.New(%v, %v) returns %d", g, w, err)
	}
	return m
}

// cycle is the metric of the example of chapter 41, with a further vertex that no arc meets.
func cycle(t *testing.T) *custom.Metric {
	return metric(t, of(5, 0, 1, 1, 2, 2, 3, 3, 0), []int{0, 1, 2, 3, 4}, []int{1, 1, 1, 1})
}

func TestP43_1Example(t *testing.T) {
	m := cycle(t)
	for _, x := range []struct {
		v        int
		from, to []int
	}{
		{0, []int{0, 1, 2, 3, api.Inf}, []int{0, 3, 2, 1, api.Inf}},
		{2, []int{2, 3, 0, 1, api.Inf}, []int{2, 1, 0, 3, api.Inf}},
		{4, []int{api.Inf, api.Inf, api.Inf, api.Inf, 0}, []int{api.Inf, api.Inf, api.Inf, api.Inf, 0}},
	} {
		if got, err := From(m, x.v); !slices.Equal(got, x.from) || err != api.OK {
			t.Errorf("From(%d) is %v, %d, not %v", x.v, got, err, x.from)
		}
		if got, err := To(m, x.v); !slices.Equal(got, x.to) || err != api.OK {
			t.Errorf("To(%d) is %v, %d, not %v", x.v, got, err, x.to)
		}
	}
}

func TestP43_1Errors(t *testing.T) {
	m, empty := cycle(t), metric(t, of(0), nil, nil)
	for _, x := range []struct {
		m    *custom.Metric
		v    int
		want api.Errno
	}{
		{nil, 0, api.ErrArg}, {nil, -1, api.ErrArg}, {nil, math.MaxInt, api.ErrArg}, {m, -1, api.ErrRange}, {m, 5, api.ErrRange}, {m, math.MinInt, api.ErrRange}, {m, math.MaxInt, api.ErrRange}, {empty, 0, api.ErrRange}, {empty, -1, api.ErrRange},
	} {
		if l, err := From(x.m, x.v); len(l) != 0 || err != x.want {
			t.Errorf("From(%d) is %v, %d, not %d", x.v, l, err, x.want)
		}
		if l, err := To(x.m, x.v); len(l) != 0 || err != x.want {
			t.Errorf("To(%d) is %v, %d, not %d", x.v, l, err, x.want)
		}
		for _, limit := range []int{-1, 0, api.Inf} {
			if l, err := Within(x.m, x.v, limit); len(l) != 0 || err != x.want {
				t.Errorf("Within(%d, %d) is %v, %d, not %d", x.v, limit, l, err, x.want)
			}
		}
	}
}

func TestP43_1Within(t *testing.T) {
	m := cycle(t)
	all := []api.Reached{{ID: 2}, {ID: 3, Cost: 1}, {ID: 0, Cost: 2}, {ID: 1, Cost: 3}}
	for _, x := range []struct{ limit, want int }{{math.MinInt, 0}, {-1, 0}, {0, 1}, {1, 2}, {2, 3}, {3, 4}, {100, 4}, {api.Inf - 1, 4}, {api.Inf, 4}, {math.MaxInt, 4}} {
		if l, err := Within(m, 2, x.limit); !slices.Equal(l, all[:x.want]) || err != api.OK {
			t.Errorf("Within(2, %d) is %v, %d, not %v", x.limit, l, err, all[:x.want])
		}
	}
	// Equal distances are in the order of the vertices, not of the ranks or the arcs.
	m = metric(t, of(5, 2, 4, 2, 1, 2, 3, 2, 0, 4, 0), []int{4, 0, 3, 1, 2}, []int{7, 7, 0, 7, 0})
	if l, err := Within(m, 2, 7); !slices.Equal(l, []api.Reached{{ID: 2}, {ID: 3}, {ID: 0, Cost: 7}, {ID: 1, Cost: 7}, {ID: 4, Cost: 7}}) || err != api.OK {
		t.Errorf("Within with equal distances is %v, %d", l, err)
	}
}

// lowered returns the distances from s to all vertices: one after the other is lowered until none can be.
func lowered(g api.Graph, w []int, s int) []int {
	dist := slices.Repeat([]int{api.Inf}, g.N)
	dist[s] = 0
	for again := true; again; {
		again = false
		for i, a := range g.Arcs {
			if w[i] < 0 || dist[a.From] == api.Inf {
				continue
			}
			if d := dist[a.From] + w[i]; d < dist[a.To] {
				dist[a.To], again = d, true
			}
		}
	}
	return dist
}

// reversed returns the graph with the ends of all arcs exchanged.
func reversed(g api.Graph) api.Graph {
	out := api.Graph{N: g.N}
	for _, a := range g.Arcs {
		out.Arcs = append(out.Arcs, api.Arc{From: a.To, To: a.From})
	}
	return out
}

func randomWeight(r *rand.Rand) int {
	switch r.Intn(8) {
	case 0, 1:
		return -1
	case 2, 3:
		return 0
	case 4:
		return api.MaxWeight - r.Intn(3)
	}
	return r.Intn(6)
}

// random returns a metric of a graph with loops and parallel arcs.
func random(t *testing.T, r *rand.Rand) *custom.Metric {
	g := api.Graph{N: 1 + r.Intn(9)}
	var w []int
	for range r.Intn(4 * g.N) {
		g.Arcs = append(g.Arcs, api.Arc{From: r.Intn(g.N), To: r.Intn(g.N)})
		w = append(w, randomWeight(r))
	}
	return metric(t, g, r.Perm(g.N), w)
}

// nearest returns, one after the other, the vertex with the smallest distance of at most limit that was not yet returned.
func nearest(dist []int, limit int) (out []api.Reached) {
	used := map[int]bool{}
	for {
		best := -1
		for v, d := range dist {
			if d <= limit && d != api.Inf && !used[v] && (best < 0 || d < dist[best]) {
				best = v
			}
		}
		if best < 0 {
			return out
		}
		used[best] = true
		out = append(out, api.Reached{ID: best, Cost: dist[best]})
	}
}

// checkAll compares the distances from and to all vertices with those in the graph.
func checkAll(t *testing.T, r *rand.Rand, m *custom.Metric) {
	t.Helper()
	g, w := m.Hier().Graph(), m.Weights()
	for s := range g.N {
		from, to := lowered(g, w, s), lowered(reversed(g), w, s)
		if got, err := From(m, s); !slices.Equal(got, from) || err != api.OK {
			t.Fatalf("From(%d) of %v, %v with the order %v is %v, %d, not %v", s, g, w, m.Hier().Order(), got, err, from)
		}
		if got, err := To(m, s); !slices.Equal(got, to) || err != api.OK {
			t.Fatalf("To(%d) of %v, %v with the order %v is %v, %d, not %v", s, g, w, m.Hier().Order(), got, err, to)
		}
		limit := []int{-1, 0, 1, 5, 9, api.MaxWeight, api.Inf}[r.Intn(7)]
		if got, err := Within(m, s, limit); !slices.Equal(got, nearest(from, limit)) || err != api.OK {
			t.Fatalf("Within(%d, %d) of %v, %v is %v, %d, not %v", s, limit, g, w, got, err, nearest(from, limit))
		}
	}
}

func TestP43_1Random(t *testing.T) {
	r := rand.New(rand.NewSource(1))
	for range 4000 {
		checkAll(t, r, random(t, r))
	}
}

// P6 of DOC.md: the distances are right after any sequence of changes of weights.
func TestP43_2Changes(t *testing.T) {
	r := rand.New(rand.NewSource(2))
	for range 1000 {
		m := random(t, r)
		for n := len(m.Weights()); n > 0 && r.Intn(6) > 0; {
			var arcs, weights []int
			for range 1 + r.Intn(4) {
				arcs, weights = append(arcs, r.Intn(n)), append(weights, randomWeight(r))
			}
			if _, err := m.Set(arcs, weights); err != api.OK {
				t.Fatal(err)
			}
			checkAll(t, r, m)
		}
	}
}

// grid returns a graph of n by n vertices with arcs between neighbours in both directions.
func grid(n int) api.Graph {
	g := api.Graph{N: n * n}
	for v := range n * n {
		if v%n+1 < n {
			g.Arcs = append(g.Arcs, api.Arc{From: v, To: v + 1}, api.Arc{From: v + 1, To: v})
		}
		if v+n < n*n {
			g.Arcs = append(g.Arcs, api.Arc{From: v, To: v + n}, api.Arc{From: v + n, To: v})
		}
	}
	return g
}

func TestP43_2OtherSearches(t *testing.T) {
	r := rand.New(rand.NewSource(3))
	g := grid(15)
	l := order.MinDegree(g)
	for _, most := range []int{1, 3, 1000, api.MaxWeight} {
		var w []int
		for range g.Arcs {
			w = append(w, r.Intn(most+2)-1)
		}
		m := metric(t, g, l, w)
		for range 10 {
			s := r.Intn(g.N)
			from, _ := From(m, s)
			to, _ := To(m, s)
			if want, err := dijkstra.From(g, w, s); !slices.Equal(from, want) || err != api.OK {
				t.Fatalf("From(%d) is %v, not %v", s, from, want)
			}
			if want, err := dijkstra.To(g, w, s); !slices.Equal(to, want) || err != api.OK {
				t.Fatalf("To(%d) is %v, not %v", s, to, want)
			}
			if near, _ := Within(m, s, most*4); !slices.Equal(near, nearest(from, most*4)) {
				t.Fatalf("Within(%d, %d) is %v, not %v", s, most*4, near, nearest(from, most*4))
			}
			for v := range g.N {
				there, _ := query.Dist(m, s, v)
				back, _ := query.Dist(m, v, s)
				if from[v] != there || to[v] != back {
					t.Fatalf("the distances between %d and %d are %d and %d, not %d and %d", s, v, from[v], to[v], there, back)
				}
			}
		}
	}
}

// In a chain of vertices with the greatest weights the distances are as great as possible.
func TestP43_1Chain(t *testing.T) {
	const n = 5000
	g := api.Graph{N: n}
	var l, w []int
	for v := range n - 1 {
		g.Arcs = append(g.Arcs, api.Arc{From: v, To: v + 1})
		w = append(w, api.MaxWeight)
	}
	for v := range n {
		l = append(l, (v*7+3)%n)
	}
	m := metric(t, g, l, w)
	from, _ := From(m, 10)
	to, _ := To(m, 10)
	for v := range n {
		there, back := api.Inf, api.Inf
		if v >= 10 {
			there = (v - 10) * api.MaxWeight
		}
		if v <= 10 {
			back = (10 - v) * api.MaxWeight
		}
		if from[v] != there || to[v] != back {
			t.Fatalf("the distances of %d are %d and %d, not %d and %d", v, from[v], to[v], there, back)
		}
	}
}

func TestP43_Aliasing(t *testing.T) {
	r := rand.New(rand.NewSource(4))
	m := cycle(t)
	from, _ := From(m, 0)
	to, _ := To(m, 0)
	near, _ := Within(m, 0, 9)
	clear(from)
	clear(to)
	clear(near)
	checkAll(t, r, m)
	// A result does not change when the weights do.
	from, _ = From(m, 0)
	if _, err := m.Set([]int{0}, []int{9}); err != api.OK || !slices.Equal(from, []int{0, 1, 2, 3, api.Inf}) {
		t.Errorf("the distances became %v", from)
	}
	checkAll(t, r, m)
}
