package query

import (
	"math"
	"math/rand"
	"slices"
	"testing"

	"mapmaker/api"
	"mapmaker/contract"
	"mapmaker/custom"
	"mapmaker/order"
)

// of returns the graph with n vertices and the arcs from and to the vertices in turn.
func of(n int, ends ...int) api.Graph {
	g := api.Graph{N: n}
	for i := 0; i < len(ends); i += 2 {
		g.Arcs = append(g.Arcs, api.Arc{From: ends[i], To: ends[i+1]})
	}
	return g
}

func metric(t *testing.T, g api.Graph, l, w []int) *custom.Metric {
	t.Helper()
	h, err := contract.New(g, l)
	if h == nil || err != api.OK {
		t.Fatalf("contract.New(%v, %v) returns %d", g, l, err)
	}
	m, err := custom.New(h, w)
	if m == nil || err != api.OK {
		t.Fatalf("custom.New(%v, %v) returns %d", g, w, err)
	}
	return m
}

// cycle is the metric of the example of chapter 41, with a further vertex.
func cycle(t *testing.T) *custom.Metric {
	return metric(t, of(5, 0, 1, 1, 2, 2, 3, 3, 0), []int{0, 1, 2, 3, 4}, []int{1, 1, 1, 1})
}

func TestP42_1Example(t *testing.T) {
	m := cycle(t)
	if n, err := Dist(m, 3, 1); n != 2 || err != api.OK {
		t.Errorf("Dist(3, 1) is %d, %d", n, err)
	}
	if l, n, err := Path(m, 3, 1); !slices.Equal(l, []int{3, 0}) || n != 2 || err != api.OK {
		t.Errorf("Path(3, 1) is %v, %d, %d", l, n, err)
	}
	if l, n, err := Path(m, 4, 4); len(l) != 0 || n != 0 || err != api.OK {
		t.Errorf("Path(4, 4) is %v, %d, %d", l, n, err)
	}
	if n, err := Dist(m, 2, 2); n != 0 || err != api.OK {
		t.Errorf("Dist(2, 2) is %d, %d", n, err)
	}
	if n, err := Dist(m, 4, 0); n != api.Inf || err != api.OK {
		t.Errorf("Dist(4, 0) is %d, %d, not Inf", n, err)
	}
	if l, n, err := Path(m, 4, 0); len(l) != 0 || n != 0 || err != api.ErrPath {
		t.Errorf("Path(4, 0) is %v, %d, %d, not ErrPath", l, n, err)
	}
}

func TestP42_1Errors(t *testing.T) {
	m := cycle(t)
	for _, x := range []struct {
		m    *custom.Metric
		s, t int
		want api.Errno
	}{
		{nil, 0, 0, api.ErrArg}, {nil, -1, 9, api.ErrArg}, {m, -1, 0, api.ErrRange}, {m, 0, -1, api.ErrRange}, {m, 5, 0, api.ErrRange}, {m, 0, 5, api.ErrRange}, {m, 5, 5, api.ErrRange},
		{m, math.MinInt, 0, api.ErrRange}, {m, 4, math.MaxInt, api.ErrRange},
	} {
		if n, err := Dist(x.m, x.s, x.t); n != 0 || err != x.want {
			t.Errorf("Dist(%d, %d) is %d, %d, not %d", x.s, x.t, n, err, x.want)
		}
		if l, n, err := Path(x.m, x.s, x.t); len(l) != 0 || n != 0 || err != x.want {
			t.Errorf("Path(%d, %d) is %v, %d, %d, not %d", x.s, x.t, l, n, err, x.want)
		}
		if v, ok := Meet(x.m, x.s, x.t); v != 0 || ok {
			t.Errorf("Meet(%d, %d) is %d, %v", x.s, x.t, v, ok)
		}
	}
	empty := metric(t, of(0), nil, nil)
	if _, err := Dist(empty, 0, 0); err != api.ErrRange {
		t.Errorf("Dist in a graph without vertices returns %d", err)
	}
}

func TestP42_2Example(t *testing.T) {
	m := cycle(t)
	for _, x := range []struct {
		s    int
		back bool
		want []api.Reached
	}{
		{1, false, []api.Reached{{ID: 1}, {ID: 2, Cost: 1}, {ID: 3, Cost: 2}}},
		{1, true, []api.Reached{{ID: 1}, {ID: 3, Cost: 2}}},
		{0, false, []api.Reached{{ID: 0}, {ID: 1, Cost: 1}, {ID: 2, Cost: 2}, {ID: 3, Cost: 3}}},
		{0, true, []api.Reached{{ID: 0}, {ID: 3, Cost: 1}}},
		{3, false, []api.Reached{{ID: 3}}},
		{3, true, []api.Reached{{ID: 3}}},
		{4, true, []api.Reached{{ID: 4}}},
	} {
		if got := Upward(m, x.s, x.back); !slices.Equal(got, x.want) {
			t.Errorf("Upward(%d, %v) is %v, not %v", x.s, x.back, got, x.want)
		}
	}
	for _, v := range []int{-1, 5, math.MinInt, math.MaxInt} {
		if len(Upward(m, v, false)) != 0 || len(Upward(m, v, true)) != 0 {
			t.Errorf("Upward of %d, which is no vertex, is not empty", v)
		}
	}
	if len(Upward(nil, 0, false)) != 0 || len(Upward(nil, 0, true)) != 0 {
		t.Error("Upward of a nil metric is not empty")
	}
	if v, ok := Meet(m, 3, 1); v != 3 || !ok {
		t.Errorf("Meet(3, 1) is %d, %v", v, ok)
	}
	if v, ok := Meet(m, 4, 1); v != 0 || ok {
		t.Errorf("Meet(4, 1) is %d, %v", v, ok)
	}
	if v, ok := Meet(m, 4, 4); v != 4 || !ok {
		t.Errorf("Meet(4, 4) is %d, %v", v, ok)
	}
}

func TestP42_2Unpack(t *testing.T) {
	m := cycle(t)
	e, _ := m.Hier().Find(1, 3)
	if l, ok := Unpack(m, e, false); !slices.Equal(l, []int{3, 0}) || !ok {
		t.Errorf("Unpack of 3 to 1 is %v, %v", l, ok)
	}
	for _, x := range []struct {
		m  *custom.Metric
		e  int
		up bool
	}{{m, e, true}, {m, -1, true}, {m, 5, false}, {m, math.MinInt, true}, {m, math.MaxInt, false}, {nil, 0, true}, {nil, 0, false}} {
		if l, ok := Unpack(x.m, x.e, x.up); len(l) != 0 || ok {
			t.Errorf("Unpack(%d, %v) is %v, %v", x.e, x.up, l, ok)
		}
	}
	// An edge of an arc of weight 0 has a path, and of several arcs it is the one with the smallest weight.
	m = metric(t, of(2, 0, 1, 0, 1, 1, 0, 0, 1), []int{0, 1}, []int{5, -1, 0, 3})
	if l, ok := Unpack(m, 0, true); !slices.Equal(l, []int{3}) || !ok {
		t.Errorf("Unpack of the smallest of three arcs is %v, %v", l, ok)
	}
	if l, ok := Unpack(m, 0, false); !slices.Equal(l, []int{2}) || !ok {
		t.Errorf("Unpack of an arc of weight 0 is %v, %v", l, ok)
	}
}

// distances returns those from s to all vertices: one after the other is lowered until none can be.
func distances(g api.Graph, w []int, s int) []int {
	dist := slices.Repeat([]int{api.Inf}, g.N)
	dist[s] = 0
	for again := true; again; {
		again = false
		for i, a := range g.Arcs {
			if w[i] < 0 || dist[a.From] == api.Inf {
				continue
			}
			if d := dist[a.From] + w[i]; d < dist[a.To] {
				dist[a.To], again = d, true
			}
		}
	}
	return dist
}

// cost returns the cost of a path from s to t without repeated vertices, and true.
func cost(g api.Graph, w, path []int, s, t int) (int, bool) {
	sum, seen := 0, map[int]bool{s: true}
	for _, i := range path {
		if i < 0 || i >= len(g.Arcs) || g.Arcs[i].From != s || w[i] < 0 || seen[g.Arcs[i].To] {
			return 0, false
		}
		s = g.Arcs[i].To
		seen[s] = true
		sum += w[i]
	}
	return sum, s == t
}

func randomWeight(r *rand.Rand) int {
	switch r.Intn(8) {
	case 0, 1:
		return -1
	case 2, 3:
		return 0
	case 4:
		return api.MaxWeight - r.Intn(3)
	}
	return r.Intn(6)
}

// random returns a metric of a graph with loops and parallel arcs.
func random(t *testing.T, r *rand.Rand) *custom.Metric {
	g := api.Graph{N: 1 + r.Intn(9)}
	var w []int
	for range r.Intn(4 * g.N) {
		g.Arcs = append(g.Arcs, api.Arc{From: r.Intn(g.N), To: r.Intn(g.N)})
		w = append(w, randomWeight(r))
	}
	return metric(t, g, r.Perm(g.N), w)
}

// checkAll compares all answers about the metric with searches in the graph.
func checkAll(t *testing.T, m *custom.Metric) {
	t.Helper()
	g, w := m.Hier().Graph(), m.Weights()
	for s := range g.N {
		dist := distances(g, w, s)
		for v := range g.N {
			if n, err := Dist(m, s, v); n != dist[v] || err != api.OK {
				t.Fatalf("Dist(%d, %d) of %v, %v is %d, %d, not %d", s, v, g, w, n, err, dist[v])
			}
			l, n, err := Path(m, s, v)
			if dist[v] == api.Inf {
				if len(l) != 0 || n != 0 || err != api.ErrPath {
					t.Fatalf("Path(%d, %d) of %v, %v is %v, %d, %d, not ErrPath", s, v, g, w, l, n, err)
				}
				continue
			}
			if sum, ok := cost(g, w, l, s, v); !ok || sum != dist[v] || n != dist[v] || err != api.OK {
				t.Fatalf("Path(%d, %d) of %v, %v is %v, %d, %d, not of cost %d", s, v, g, w, l, n, err, dist[v])
			}
		}
	}
}

func TestP42_1Random(t *testing.T) {
	r := rand.New(rand.NewSource(1))
	for range 3000 {
		m := random(t, r)
		checkAll(t, m)
		if n := len(m.Weights()); n > 0 {
			var arcs, weights []int
			for range 1 + r.Intn(4) {
				arcs, weights = append(arcs, r.Intn(n)), append(weights, randomWeight(r))
			}
			if _, err := m.Set(arcs, weights); err != api.OK {
				t.Fatal(err)
			}
			checkAll(t, m)
		}
	}
}

// climbs returns the smallest cost of a path of edges with increasing ranks from s to each vertex, by a search through all of them.
func climbs(m *custom.Metric, s int, back bool) map[int]int {
	out := map[int]int{}
	var visit func(v, cost int)
	visit = func(v, cost int) {
		if old, ok := out[v]; !ok || cost < old {
			out[v] = cost
		}
		for e, ends := range m.Hier().Edges() {
			weight := m.Up(e)
			if back {
				weight = m.Down(e)
			}
			if ends.From == v && weight < api.Inf {
				visit(ends.To, cost+weight)
			}
		}
	}
	visit(s, 0)
	return out
}

func TestP42_2Upward(t *testing.T) {
	r := rand.New(rand.NewSource(2))
	total := 0
	for range 1500 {
		m := random(t, r)
		h := m.Hier()
		for s := range h.Graph().N {
			for _, back := range []bool{false, true} {
				found := climbs(m, s, back)
				var want []api.Reached
				for _, v := range h.Order() {
					if c, ok := found[v]; ok {
						want = append(want, api.Reached{ID: v, Cost: c})
					}
				}
				if got := Upward(m, s, back); !slices.Equal(got, want) {
					t.Fatalf("Upward(%d, %v) of %v, %v is %v, not %v", s, back, h.Graph(), m.Weights(), got, want)
				}
				total += len(want)
			}
		}
	}
	if total < 20000 {
		t.Errorf("only %d vertices were reached", total)
	}
}

func TestP42_2Meet(t *testing.T) {
	r := rand.New(rand.NewSource(3))
	ties := 0
	for range 1500 {
		m := random(t, r)
		h := m.Hier()
		for s := range h.Graph().N {
			for v := range h.Graph().N {
				away, toward := climbs(m, s, false), climbs(m, v, true)
				want, least, ok := 0, 0, false
				for _, x := range h.Order() {
					a, inA := away[x]
					b, inB := toward[x]
					if inA && inB && ok && a+b == least {
						ties++
					}
					if inA && inB && (!ok || a+b < least) {
						want, least, ok = x, a+b, true
					}
				}
				if got, found := Meet(m, s, v); got != want || found != ok {
					t.Fatalf("Meet(%d, %d) of %v, %v is %d, %v, not %d, %v", s, v, h.Graph(), m.Weights(), got, found, want, ok)
				}
				// The smallest sum is the distance.
				if n, _ := Dist(m, s, v); ok && n != least || !ok && n != api.Inf {
					t.Fatalf("Dist(%d, %d) is %d, not %d, %v", s, v, n, least, ok)
				}
			}
		}
	}
	if ties < 1000 {
		t.Errorf("there are only %d ties", ties)
	}
}

func TestP42_2UnpackRandom(t *testing.T) {
	r := rand.New(rand.NewSource(4))
	long := 0
	for range 3000 {
		m := random(t, r)
		g, w := m.Hier().Graph(), m.Weights()
		for e, ends := range m.Hier().Edges() {
			for _, up := range []bool{true, false} {
				from, to, weight := ends.From, ends.To, m.Up(e)
				if !up {
					from, to, weight = ends.To, ends.From, m.Down(e)
				}
				l, ok := Unpack(m, e, up)
				if weight == api.Inf {
					if len(l) != 0 || ok {
						t.Fatalf("Unpack(%d, %v) of %v, %v is %v, %v", e, up, g, w, l, ok)
					}
					continue
				}
				if sum, good := cost(g, w, l, from, to); !ok || !good || sum != weight {
					t.Fatalf("Unpack(%d, %v) of %v, %v is %v, %v, not of cost %d", e, up, g, w, l, ok, weight)
				}
				if len(l) > 2 {
					long++
				}
			}
		}
	}
	if long < 1000 {
		t.Errorf("only %d paths were long", long)
	}
}

// grid returns a graph of n by n vertices with arcs between neighbours in both directions.
func grid(n int) api.Graph {
	g := api.Graph{N: n * n}
	for v := range n * n {
		if v%n+1 < n {
			g.Arcs = append(g.Arcs, api.Arc{From: v, To: v + 1}, api.Arc{From: v + 1, To: v})
		}
		if v+n < n*n {
			g.Arcs = append(g.Arcs, api.Arc{From: v, To: v + n}, api.Arc{From: v + n, To: v})
		}
	}
	return g
}

func TestP42_1Grid(t *testing.T) {
	r := rand.New(rand.NewSource(5))
	g := grid(20)
	l := order.MinDegree(g)
	for _, most := range []int{1, 3, api.MaxWeight} {
		var w []int
		for range g.Arcs {
			w = append(w, r.Intn(most))
		}
		m := metric(t, g, l, w)
		for range 5 {
			s := r.Intn(g.N)
			dist := distances(g, w, s)
			for v := range g.N {
				l, n, err := Path(m, s, v)
				if sum, ok := cost(g, w, l, s, v); !ok || sum != dist[v] || n != sum || err != api.OK {
					t.Fatalf("Path(%d, %d) is %v, %d, %d, not of cost %d", s, v, l, n, err, dist[v])
				}
			}
		}
	}
}

// A chain whose vertices are eliminated from one end has edges that are unpacked in as many steps as it has vertices.
func TestP42_1Deep(t *testing.T) {
	const n = 5000
	g := api.Graph{N: n}
	var l, w []int
	for v := range n - 1 {
		g.Arcs = append(g.Arcs, api.Arc{From: v, To: v + 1})
		w = append(w, api.MaxWeight)
	}
	for v := 1; v < n-1; v++ {
		l = append(l, v)
	}
	m := metric(t, g, append(l, 0, n-1), w)
	if path, c, err := Path(m, 0, n-1); len(path) != n-1 || c != (n-1)*api.MaxWeight || err != api.OK || path[0] != 0 || path[n-2] != n-2 {
		t.Errorf("Path has %d arcs, cost %d, error %d", len(path), c, err)
	}
	if c, err := Dist(m, n-1, 0); c != api.Inf || err != api.OK {
		t.Errorf("Dist back is %d, %d", c, err)
	}
}

func TestP42_Aliasing(t *testing.T) {
	m := cycle(t)
	path, _, _ := Path(m, 3, 1)
	up := Upward(m, 0, false)
	part, _ := Unpack(m, 0, true)
	clear(path)
	clear(up)
	clear(part)
	path[0], up[0].Cost, part[0] = 9, 9, 9
	if n, err := Dist(m, 3, 1); n != 2 || err != api.OK || !slices.Equal(m.Weights(), []int{1, 1, 1, 1}) {
		t.Error("a result shares memory with the metric")
	}
	checkAll(t, m)
}
