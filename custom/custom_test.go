package custom

import (
	"math"
	"math/rand"
	"reflect"
	"slices"
	"testing"

	"mapmaker/api"
	"mapmaker/contract"
	"mapmaker/dijkstra"
	"mapmaker/order"
)

// of returns the graph with n vertices and the arcs from and to the vertices in turn.
func of(n int, ends ...int) api.Graph {
	g := api.Graph{N: n}
	for i := 0; i < len(ends); i += 2 {
		g.Arcs = append(g.Arcs, api.Arc{From: ends[i], To: ends[i+1]})
	}
	return g
}

func hierOf(t *testing.T, g api.Graph, l []int) *contract.Hier {
	t.Helper()
	h, err := contract.New(g, l)
	if h == nil || err != api.OK {
		t.Fatalf("contract.New(%v, %v) returns %d", g, l, err)
	}
	return h
}

func must(t *testing.T, h *contract.Hier, w []int) *Metric {
	t.Helper()
	m, err := New(h, w)
	if m == nil || err != api.OK {
		t.Fatalf("New(%v, %v) returns %d", h.Graph(), w, err)
	}
	return m
}

// random returns a hierarchy of a graph with loops and parallel arcs.
func random(t *testing.T, r *rand.Rand) *contract.Hier {
	g := api.Graph{N: 1 + r.Intn(9)}
	for range r.Intn(4 * g.N) {
		g.Arcs = append(g.Arcs, api.Arc{From: r.Intn(g.N), To: r.Intn(g.N)})
	}
	return hierOf(t, g, r.Perm(g.N))
}

func randomWeight(r *rand.Rand) int {
	switch r.Intn(8) {
	case 0, 1:
		return -1
	case 2:
		return 0
	case 3:
		return api.MaxWeight - r.Intn(3)
	}
	return r.Intn(12)
}

func randomWeights(r *rand.Rand, n int) (out []int) {
	for range n {
		out = append(out, randomWeight(r))
	}
	return out
}

// lowest returns the smallest cost of a path from u to v over vertices that rank below both: one distance after the other is lowered until none can be.
func lowest(h *contract.Hier, w []int, u, v int) int {
	g := h.Graph()
	dist := slices.Repeat([]int{api.Inf}, g.N)
	dist[u] = 0
	for again := true; again; {
		again = false
		for i, a := range g.Arcs {
			inner := func(x int) bool { return h.Rank(x) < min(h.Rank(u), h.Rank(v)) }
			if w[i] < 0 || a.From != u && !inner(a.From) || a.To != v && !inner(a.To) || dist[a.From] == api.Inf {
				continue
			}
			if d := dist[a.From] + w[i]; d < dist[a.To] {
				dist[a.To], again = d, true
			}
		}
	}
	return dist[v]
}

// table returns the weights of both directions of all edges by searches in the graph.
func table(h *contract.Hier, w []int) (out [][2]int) {
	for _, e := range h.Edges() {
		out = append(out, [2]int{lowest(h, w, e.From, e.To), lowest(h, w, e.To, e.From)})
	}
	return out
}

// weightsOf returns what the metric says about both directions of all edges.
func weightsOf(m *Metric) (out [][2]int) {
	for e := range m.Hier().Edges() {
		out = append(out, [2]int{m.Up(e), m.Down(e)})
	}
	return out
}

func TestP41_1Example(t *testing.T) {
	h := hierOf(t, of(4, 0, 1, 1, 2, 2, 3, 3, 0), []int{0, 1, 2, 3})
	m := must(t, h, []int{1, 1, 1, 1})
	e, ok := h.Find(1, 3)
	if !ok || m.Down(e) != 2 || m.Up(e) != api.Inf {
		t.Errorf("the edge 1-3 weighs %d up and %d down, not Inf and 2", m.Up(e), m.Down(e))
	}
}

func TestP41_1Directions(t *testing.T) {
	// Vertex 0 ranks last, so that the edge leads up from 1 to 0.
	h := hierOf(t, of(2, 0, 1, 1, 0, 1, 0, 0, 0, 0, 1), []int{1, 0})
	for _, x := range []struct {
		w        []int
		up, down int
	}{
		{[]int{5, 7, 6, 0, 9}, 6, 5},
		{[]int{-1, 7, -1, 0, 9}, 7, 9},
		{[]int{-1, -1, -1, 0, -1}, api.Inf, api.Inf},
		{[]int{0, api.MaxWeight, -1, -1, -1}, api.MaxWeight, 0},
	} {
		m := must(t, h, x.w)
		if m.Up(0) != x.up || m.Down(0) != x.down {
			t.Errorf("with %v the edge weighs %d and %d, not %d and %d", x.w, m.Up(0), m.Down(0), x.up, x.down)
		}
	}
}

func TestP41_1Errors(t *testing.T) {
	h := hierOf(t, of(3, 0, 1, 1, 2, 2, 0), []int{0, 1, 2})
	for _, x := range []struct {
		name string
		h    *contract.Hier
		w    []int
		want api.Errno
	}{
		{"no hierarchy", nil, nil, api.ErrArg}, {"no hierarchy and bad weights", nil, []int{-2}, api.ErrArg},
		{"all weights", h, []int{-1, 0, api.MaxWeight}, api.OK},
		{"too few weights", h, []int{1, 1}, api.ErrWeight}, {"too many weights", h, []int{1, 1, 1, 1}, api.ErrWeight}, {"no weights", h, nil, api.ErrWeight},
		{"a weight below -1", h, []int{1, 1, -2}, api.ErrWeight}, {"a large weight", h, []int{1, api.MaxWeight + 1, 1}, api.ErrWeight},
		{"the smallest integer", h, []int{math.MinInt, 1, 1}, api.ErrWeight}, {"the greatest integer", h, []int{1, 1, math.MaxInt}, api.ErrWeight},
	} {
		m, err := New(x.h, x.w)
		if err != x.want || (m != nil) != (err == api.OK) {
			t.Errorf("New with %s returns %v, %d, not %d", x.name, m, err, x.want)
		}
	}
	m := must(t, hierOf(t, api.Graph{}, nil), nil)
	if m.Up(0) != api.Inf || m.Down(0) != api.Inf || len(m.Weights()) != 0 {
		t.Error("the metric of the empty graph")
	}
}

func TestP41_1Getters(t *testing.T) {
	h := hierOf(t, of(3, 0, 1, 1, 2, 2, 0), []int{2, 0, 1})
	w := []int{4, -1, 6}
	m := must(t, h, w)
	if m.Hier() != h || !slices.Equal(m.Weights(), w) {
		t.Errorf("Hier or Weights differ: %v", m.Weights())
	}
	for _, e := range []int{-1, 3, math.MinInt, math.MaxInt} {
		if m.Up(e) != api.Inf || m.Down(e) != api.Inf {
			t.Errorf("edge %d weighs %d and %d", e, m.Up(e), m.Down(e))
		}
	}
}

func TestP41_1ByPaths(t *testing.T) {
	r := rand.New(rand.NewSource(1))
	for range 2500 {
		h := random(t, r)
		w := randomWeights(r, len(h.Graph().Arcs))
		if got, want := weightsOf(must(t, h, w)), table(h, w); !slices.Equal(got, want) {
			t.Fatalf("the graph %v with the order %v and the weights %v has %v, not %v", h.Graph(), h.Order(), w, got, want)
		}
	}
}

// definition returns the weight from u to v as the chapter defines it.
func definition(m *Metric, e int, u, v int) int {
	out := api.Inf
	for i, a := range m.Hier().Graph().Arcs {
		if w := m.Weights()[i]; a.From == u && a.To == v && w >= 0 {
			out = min(out, w)
		}
	}
	for _, x := range m.Hier().Lower(e) {
		if a, b := towards(m, u, x), towards(m, x, v); a != api.Inf && b != api.Inf {
			out = min(out, a+b)
		}
	}
	return out
}

// towards returns the weight of the direction of an edge from u to v.
func towards(m *Metric, u, v int) int {
	e, ok := m.Hier().Find(u, v)
	switch {
	case !ok:
		return api.Inf
	case m.Hier().Rank(u) < m.Hier().Rank(v):
		return m.Up(e)
	}
	return m.Down(e)
}

func TestP41_1Definition(t *testing.T) {
	r := rand.New(rand.NewSource(2))
	for range 800 {
		h := random(t, r)
		m := must(t, h, randomWeights(r, len(h.Graph().Arcs)))
		for e, ends := range h.Edges() {
			if up, down := definition(m, e, ends.From, ends.To), definition(m, e, ends.To, ends.From); m.Up(e) != up || m.Down(e) != down {
				t.Fatalf("edge %v weighs %d and %d, not %d and %d", ends, m.Up(e), m.Down(e), up, down)
			}
		}
	}
}

func TestP41_1LargeWeights(t *testing.T) {
	// A long path whose inner vertices are eliminated one after the other.
	const n = 300
	g := api.Graph{N: n}
	l := []int{}
	for v := range n - 1 {
		g.Arcs = append(g.Arcs, api.Arc{From: v, To: v + 1})
		if v > 0 {
			l = append(l, v)
		}
	}
	h := hierOf(t, g, append(l, 0, n-1))
	m := must(t, h, slices.Repeat([]int{api.MaxWeight}, n-1))
	e, ok := h.Find(0, n-1)
	if !ok || m.Up(e) != (n-1)*api.MaxWeight || m.Down(e) != api.Inf {
		t.Errorf("the path weighs %d and %d", m.Up(e), m.Down(e))
	}
}

func TestP41_2SetErrors(t *testing.T) {
	h := hierOf(t, of(3, 0, 1, 1, 2, 2, 0), []int{0, 1, 2})
	for _, x := range []struct {
		name    string
		arcs, w []int
		n       int
		want    api.Errno
		after   []int // the weights afterwards
	}{
		{"nothing", nil, nil, 0, api.OK, []int{1, 2, 3}},
		{"one arc", []int{1}, []int{5}, 1, api.OK, []int{1, 5, 3}},
		{"the limits", []int{0, 2}, []int{-1, api.MaxWeight}, 3, api.OK, []int{-1, 2, api.MaxWeight}},
		{"an arc twice", []int{1, 1}, []int{9, 2}, 0, api.OK, []int{1, 2, 3}},
		{"an arc twice, changed", []int{1, 1}, []int{2, 9}, 1, api.OK, []int{1, 9, 3}},
		{"more arcs", []int{1, 0}, []int{5}, 0, api.ErrShort, []int{1, 2, 3}},
		{"more weights", []int{1}, []int{5, 5}, 0, api.ErrShort, []int{1, 2, 3}},
		{"more weights and no such arc", []int{7}, []int{5, -9}, 0, api.ErrShort, []int{1, 2, 3}},
		{"arc 3", []int{0, 3}, []int{5, 5}, 0, api.ErrRange, []int{1, 2, 3}},
		{"arc -1", []int{-1}, []int{5}, 0, api.ErrRange, []int{1, 2, 3}},
		{"the smallest arc", []int{math.MinInt}, []int{5}, 0, api.ErrRange, []int{1, 2, 3}},
		{"the greatest arc", []int{math.MaxInt}, []int{5}, 0, api.ErrRange, []int{1, 2, 3}},
		{"arc 3 with a bad weight", []int{3}, []int{-2}, 0, api.ErrRange, []int{1, 2, 3}},
		{"a bad weight before arc 3", []int{0, 3}, []int{-2, 5}, 0, api.ErrWeight, []int{1, 2, 3}},
		{"arc 3 before a bad weight", []int{3, 0}, []int{5, -2}, 0, api.ErrRange, []int{1, 2, 3}},
		{"a large weight at the end", []int{0, 1}, []int{5, api.MaxWeight + 1}, 0, api.ErrWeight, []int{1, 2, 3}},
		{"a bad weight that is replaced", []int{0, 0}, []int{-2, 5}, 0, api.ErrWeight, []int{1, 2, 3}},
		{"the greatest weight", []int{0}, []int{math.MaxInt}, 0, api.ErrWeight, []int{1, 2, 3}},
	} {
		m := must(t, h, []int{1, 2, 3})
		n, err := m.Set(x.arcs, x.w)
		if n != x.n || err != x.want {
			t.Errorf("Set of %s returns %d, %d, not %d, %d", x.name, n, err, x.n, x.want)
		}
		if !slices.Equal(m.Weights(), x.after) || !slices.Equal(weightsOf(m), table(h, x.after)) {
			t.Errorf("after Set of %s the weights are %v, %v", x.name, m.Weights(), weightsOf(m))
		}
	}
}

func TestP41_2Set(t *testing.T) {
	r := rand.New(rand.NewSource(3))
	for range 400 {
		h := random(t, r)
		w := randomWeights(r, len(h.Graph().Arcs))
		m := must(t, h, w)
		for range 6 {
			var arcs, weights []int
			for range r.Intn(4) {
				if len(w) > 0 {
					arcs, weights = append(arcs, r.Intn(len(w))), append(weights, randomWeight(r))
				}
			}
			before := table(h, w)
			for i, arc := range arcs {
				w[arc] = weights[i]
			}
			after := table(h, w)
			changed := 0
			for e := range after {
				if before[e] != after[e] {
					changed++
				}
			}
			n, err := m.Set(arcs, weights)
			if n != changed || err != api.OK {
				t.Fatalf("Set(%v, %v) returns %d, %d, not %d", arcs, weights, n, err, changed)
			}
			if !slices.Equal(m.Weights(), w) || !slices.Equal(weightsOf(m), after) {
				t.Fatalf("after Set(%v, %v) the metric has %v, %v, not %v, %v", arcs, weights, m.Weights(), weightsOf(m), w, after)
			}
		}
	}
}

func TestP41_2Copy(t *testing.T) {
	h := hierOf(t, of(3, 0, 1, 1, 2, 2, 0), []int{0, 1, 2})
	m := must(t, h, []int{1, 2, 3})
	c := m.Copy()
	if c == m || c.Hier() != h || !slices.Equal(c.Weights(), m.Weights()) || !slices.Equal(weightsOf(c), weightsOf(m)) {
		t.Fatal("the copy differs")
	}
	m.Set([]int{0, 1}, []int{7, -1})
	if !slices.Equal(c.Weights(), []int{1, 2, 3}) || !slices.Equal(weightsOf(c), table(h, []int{1, 2, 3})) {
		t.Error("setting the original changes the copy")
	}
	c.Set([]int{2}, []int{9})
	if !slices.Equal(m.Weights(), []int{7, -1, 3}) || !slices.Equal(weightsOf(m), table(h, []int{7, -1, 3})) {
		t.Error("setting the copy changes the original")
	}
}

func TestP41_2Nil(t *testing.T) {
	var m *Metric
	if m.Hier() != nil || len(m.Weights()) != 0 || m.Up(0) != api.Inf || m.Down(0) != api.Inf || m.Copy() != nil {
		t.Error("a nil metric has something")
	}
	for _, w := range [][]int{nil, {1}, {1, 2}} {
		if n, err := m.Set([]int{0}, w); n != 0 || err != api.ErrArg {
			t.Errorf("Set of a nil metric returns %d, %d", n, err)
		}
	}
}

func TestP41_3Distances(t *testing.T) {
	r := rand.New(rand.NewSource(4))
	for range 400 {
		h := random(t, r)
		g := h.Graph()
		w := randomWeights(r, len(g.Arcs))
		m := must(t, h, w)
		for e, ends := range h.Edges() {
			for _, x := range [][3]int{{ends.From, ends.To, m.Up(e)}, {ends.To, ends.From, m.Down(e)}} {
				dist, err := dijkstra.From(g, w, x[0])
				if err != api.OK || x[2] < dist[x[1]] {
					t.Fatalf("the direction %v weighs less than the distance %d", x, dist[x[1]])
				}
				smallest := api.Inf
				for i, a := range g.Arcs {
					if a.From == x[0] && a.To == x[1] && w[i] >= 0 {
						smallest = min(smallest, w[i])
					}
				}
				shorter := false
				for _, y := range h.Lower(e) {
					shorter = shorter || towards(m, x[0], y)+towards(m, y, x[1]) < smallest
				}
				if shorter != (x[2] < smallest) {
					t.Fatalf("the direction %v has the smallest arc %d", x, smallest)
				}
			}
		}
	}
}

func TestP41_3HoweverSet(t *testing.T) {
	r := rand.New(rand.NewSource(5))
	for range 300 {
		h := random(t, r)
		n := len(h.Graph().Arcs)
		w := randomWeights(r, n)
		m := must(t, h, randomWeights(r, n))
		c := m.Copy()
		for _, arc := range r.Perm(n) {
			m.Set([]int{arc}, []int{w[arc]})
		}
		c.Set(r.Perm(n), randomWeights(r, n))
		for arc := range n {
			c.Set([]int{arc, arc}, []int{3, w[arc]})
		}
		fresh := must(t, h, w)
		if !reflect.DeepEqual(m, fresh) || !reflect.DeepEqual(c, fresh) || !reflect.DeepEqual(fresh.Copy(), fresh) {
			t.Fatalf("metrics with the weights %v of %v differ", w, h.Graph())
		}
	}
}

func TestP41_LargeGraph(t *testing.T) {
	// A grid of streets in both directions, in an order by degrees.
	const side = 24
	g := api.Graph{N: side * side}
	for i := range side {
		for j := range side {
			v := i*side + j
			if j+1 < side {
				g.Arcs = append(g.Arcs, api.Arc{From: v, To: v + 1}, api.Arc{From: v + 1, To: v})
			}
			if i+1 < side {
				g.Arcs = append(g.Arcs, api.Arc{From: v, To: v + side}, api.Arc{From: v + side, To: v})
			}
		}
	}
	r := rand.New(rand.NewSource(6))
	h := hierOf(t, g, order.MinDegree(g))
	w := randomWeights(r, len(g.Arcs))
	m := must(t, h, w)
	for range 20 {
		arcs, weights := r.Perm(len(w))[:5], randomWeights(r, 5)
		for i, arc := range arcs {
			w[arc] = weights[i]
		}
		before := weightsOf(m)
		n, err := m.Set(arcs, weights)
		after := weightsOf(must(t, h, w))
		for e := range after {
			if before[e] != after[e] {
				n--
			}
		}
		if n != 0 || err != api.OK || !slices.Equal(weightsOf(m), after) {
			t.Fatalf("Set(%v, %v) differs from New by %d edges", arcs, weights, n)
		}
	}
}

func TestP41_Aliasing(t *testing.T) {
	h := hierOf(t, of(3, 0, 1, 1, 2, 2, 0), []int{0, 1, 2})
	spare := []int{1, 2, 3, 77}
	m := must(t, h, spare[:3])
	arcs, weights := []int{1, 0, 88}, []int{6, 5, 99}
	m.Set(arcs[:2], weights[:2])
	if !slices.Equal(spare, []int{1, 2, 3, 77}) || !slices.Equal(arcs, []int{1, 0, 88}) || !slices.Equal(weights, []int{6, 5, 99}) {
		t.Error("an argument is changed")
	}
	clear(spare)
	clear(weights)
	clear(m.Weights())
	if !slices.Equal(m.Weights(), []int{5, 6, 3}) || !slices.Equal(weightsOf(m), table(h, []int{5, 6, 3})) {
		t.Error("the metric shares memory with an argument or a result")
	}
}

func TestP41_1Arc(t *testing.T) {
	r := rand.New(rand.NewSource(8))
	for range 2000 {
		h := random(t, r)
		g := h.Graph()
		m := must(t, h, randomWeights(r, len(g.Arcs)))
		for e, ends := range h.Edges() {
			for _, up := range []bool{true, false} {
				from, to, weight := ends.From, ends.To, m.Up(e)
				if !up {
					from, to, weight = ends.To, ends.From, m.Down(e)
				}
				want := -1
				for i := len(g.Arcs) - 1; i >= 0; i-- {
					if g.Arcs[i].From == from && g.Arcs[i].To == to && m.Weights()[i] == weight {
						want = i
					}
				}
				if got, ok := m.Arc(e, up); ok != (want >= 0) || got != max(want, 0) {
					t.Fatalf("Arc(%d, %v) is %d, %v, not %d", e, up, got, ok, want)
				}
			}
		}
		for _, e := range []int{-1, len(h.Edges()), math.MinInt, math.MaxInt} {
			if got, ok := m.Arc(e, true); got != 0 || ok {
				t.Fatalf("Arc(%d) is %d, %v", e, got, ok)
			}
		}
	}
	var none *Metric
	if got, ok := none.Arc(0, false); got != 0 || ok {
		t.Errorf("Arc of a nil metric is %d, %v", got, ok)
	}
}
