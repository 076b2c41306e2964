package contract

import (
	"fmt"
	"math"
	"math/rand"
	"slices"
	"testing"

	"mapmaker/api"
	"mapmaker/order"
)

// of returns the graph with n vertices and the arcs from and to the vertices in turn.
func of(n int, ends ...int) api.Graph {
	return api.Graph{N: n, Arcs: arcs(ends...)}
}

func arcs(ends ...int) (out []api.Arc) {
	for i := 0; i < len(ends); i += 2 {
		out = append(out, api.Arc{From: ends[i], To: ends[i+1]})
	}
	return out
}

func random(r *rand.Rand) (api.Graph, []int) {
	g := api.Graph{N: 1 + r.Intn(9)}
	for range r.Intn(3 * g.N) {
		g.Arcs = append(g.Arcs, api.Arc{From: r.Intn(g.N), To: r.Intn(g.N)})
	}
	return g, r.Perm(g.N)
}

func must(t *testing.T, g api.Graph, l []int) *Hier {
	t.Helper()
	h, err := New(g, l)
	if h == nil || err != api.OK {
		t.Fatalf("New(%v, %v) returns %d", g, l, err)
	}
	return h
}

// table returns, for each pair of vertices, whether there is an edge between them: it eliminates one vertex after the other.
func table(g api.Graph, l []int) [][]bool {
	m := make([][]bool, g.N)
	for v := range m {
		m[v] = make([]bool, g.N)
	}
	for _, a := range g.Arcs {
		if a.From != a.To {
			m[a.From][a.To], m[a.To][a.From] = true, true
		}
	}
	for i, v := range l {
		for _, a := range l[i+1:] {
			for _, b := range l[i+1:] {
				if a != b && m[v][a] && m[v][b] {
					m[a][b] = true
				}
			}
		}
	}
	return m
}

func TestP40_1Errors(t *testing.T) {
	g := of(3, 0, 1, 1, 2)
	for _, y := range []struct {
		g    api.Graph
		l    []int
		want api.Errno
	}{
		{g, []int{2, 0, 1}, api.OK}, {of(0), nil, api.OK}, {of(1, 0, 0), []int{0}, api.OK},
		{of(-1), nil, api.ErrLong}, {of(math.MinInt), nil, api.ErrLong}, {of(1048577), nil, api.ErrLong}, {of(math.MaxInt), []int{0}, api.ErrLong}, {api.Graph{N: 1, Arcs: make([]api.Arc, 4194305)}, []int{0}, api.ErrLong},
		{of(0, 0, 0), nil, api.ErrRange}, {of(2, 0, 2), []int{0, 0}, api.ErrRange}, {of(2, -1, 0), []int{0, 1}, api.ErrRange},
		{g, nil, api.ErrShort}, {g, []int{0, 1}, api.ErrShort}, {g, []int{0, 1, 3}, api.ErrRange}, {g, []int{-1, 0, 1}, api.ErrRange}, {g, []int{0, 1, 0}, api.ErrTwice}, {g, []int{0, 1, 2, 0}, api.ErrTwice}, {g, []int{0, 0, 9}, api.ErrTwice}, {g, []int{0, 9, 0}, api.ErrRange},
	} {
		h, err := New(y.g, y.l)
		if err != y.want || (h != nil) != (y.want == api.OK) {
			t.Errorf("New of %d vertices and %v returns %d, not %d", y.g.N, y.l, err, y.want)
		}
	}
}

func TestP40_1Ranks(t *testing.T) {
	g, l := of(4, 0, 1, 3, 2, 2, 2, 0, 1), []int{2, 0, 3, 1}
	h := must(t, g, l)
	if x := h.Graph(); x.N != 4 || !slices.Equal(x.Arcs, g.Arcs) || !slices.Equal(h.Order(), l) {
		t.Errorf("Graph is %v, Order %v", x, h.Order())
	}
	for v, want := range map[int]int{2: 0, 0: 1, 3: 2, 1: 3, -1: -1, 4: -1, math.MinInt: -1, math.MaxInt: -1} {
		if n := h.Rank(v); n != want {
			t.Errorf("Rank(%d) is %d, not %d", v, n, want)
		}
	}
}

func TestP40_2Example(t *testing.T) {
	h := must(t, of(4, 0, 1, 1, 2, 2, 3, 3, 0), []int{0, 1, 2, 3})
	if l := h.Edges(); !slices.Equal(l, arcs(0, 1, 0, 3, 1, 2, 1, 3, 2, 3)) {
		t.Errorf("Edges is %v", l)
	}
	if e, ok := h.Find(3, 1); e != 3 || !ok || !slices.Equal(h.Lower(e), []int{0}) {
		t.Errorf("Find is %d, %v; Lower %v", e, ok, h.Lower(e))
	}
	if !slices.Equal(h.Up(0), []int{0, 1}) || !slices.Equal(h.Up(1), []int{2, 3}) || len(h.Up(3)) != 0 {
		t.Errorf("Up is %v, %v, %v", h.Up(0), h.Up(1), h.Up(3))
	}
	if h.Parent(0) != 1 || h.Parent(1) != 2 || h.Parent(2) != 3 || h.Parent(3) != -1 {
		t.Error("the parents are wrong")
	}
	// In an order that adds no edge, and in one that begins in the middle of a star.
	if l := must(t, of(3, 1, 0, 1, 2), []int{0, 2, 1}).Edges(); !slices.Equal(l, arcs(0, 1, 2, 1)) {
		t.Errorf("Edges of a path is %v", l)
	}
	star := must(t, of(4, 3, 0, 1, 3, 3, 2), []int{3, 1, 0, 2})
	if l := star.Edges(); !slices.Equal(l, arcs(3, 1, 3, 0, 3, 2, 1, 0, 1, 2, 0, 2)) {
		t.Errorf("Edges of a star is %v", l)
	}
	if e, _ := star.Find(0, 2); !slices.Equal(star.Lower(e), []int{3, 1}) {
		t.Errorf("Lower is %v, not in the order of the ranks", star.Lower(e))
	}
}

func TestP40_2Random(t *testing.T) {
	r := rand.New(rand.NewSource(1))
	for range 3000 {
		g, l := random(r)
		h, m := must(t, g, l), table(g, l)
		var want []api.Arc
		for i, u := range l {
			var up []int
			for _, v := range l[i+1:] {
				if m[u][v] {
					up = append(up, len(want))
					want = append(want, api.Arc{From: u, To: v})
				}
			}
			parent := -1
			if len(up) > 0 {
				parent = want[up[0]].To
			}
			if h.Rank(u) != i || !slices.Equal(h.Up(u), up) || h.Parent(u) != parent {
				t.Fatalf("%v in the order %v: vertex %d has rank %d, Up %v, Parent %d", g, l, u, h.Rank(u), h.Up(u), h.Parent(u))
			}
		}
		if !slices.Equal(h.Edges(), want) {
			t.Fatalf("%v in the order %v has the edges %v, not %v", g, l, h.Edges(), want)
		}
		for k, e := range want {
			var lower []int
			for _, x := range l[:h.Rank(e.From)] {
				if m[x][e.From] && m[x][e.To] {
					lower = append(lower, x)
				}
			}
			if !slices.Equal(h.Lower(k), lower) {
				t.Fatalf("%v in the order %v: Lower of %v is %v, not %v", g, l, e, h.Lower(k), lower)
			}
		}
		for u := range g.N {
			for v := range g.N {
				k, ok := h.Find(u, v)
				if ok != (u != v && m[u][v]) || !ok && k != 0 || ok && want[k] != (api.Arc{From: u, To: v}) && want[k] != (api.Arc{From: v, To: u}) {
					t.Fatalf("%v in the order %v: Find(%d, %d) is %d, %v", g, l, u, v, k, ok)
				}
			}
		}
	}
}

func TestP40_2Others(t *testing.T) {
	h := must(t, of(2, 0, 1), []int{0, 1})
	for _, x := range []int{-1, 2, math.MinInt, math.MaxInt} {
		if k, ok := h.Find(x, 0); k != 0 || ok {
			t.Errorf("Find(%d, 0) is %d, %v", x, k, ok)
		}
		if k, ok := h.Find(x, x); k != 0 || ok || len(h.Up(x)) != 0 || h.Parent(x) != -1 || len(h.Lower(x)) != 0 || h.Rank(x) != -1 {
			t.Errorf("a result for %d", x)
		}
	}
	if len(h.Lower(1)) != 0 || len(h.Lower(0)) != 0 {
		t.Error("Lower is not empty")
	}
	var none *Hier
	for _, h := range []*Hier{none, must(t, of(0), nil)} {
		k, ok := h.Find(0, 0)
		g := h.Graph()
		if g.N != 0 || len(g.Arcs) != 0 || len(h.Order()) != 0 || h.Rank(0) != -1 || len(h.Edges()) != 0 || k != 0 || ok || len(h.Up(0)) != 0 || h.Parent(0) != -1 || len(h.Lower(0)) != 0 {
			t.Error("a result of an empty hierarchy")
		}
	}
}

func TestP40_3Properties(t *testing.T) {
	r := rand.New(rand.NewSource(2))
	for range 1000 {
		g, l := random(r)
		if r.Intn(2) == 0 {
			l = order.MinDegree(g)
		}
		h := must(t, g, l)
		edges := h.Edges()
		for v := range g.N {
			up := h.Up(v)
			for _, a := range up {
				for _, b := range up {
					if _, ok := h.Find(edges[a].To, edges[b].To); a != b && !ok {
						t.Fatalf("%v in the order %v: %v and %v without an edge above", g, l, edges[a], edges[b])
					}
				}
			}
			var chain []int
			for x := v; x >= 0; x = h.Parent(x) {
				chain = append(chain, x)
			}
			for reached := []int{v}; len(reached) > 0; reached = reached[1:] {
				if !slices.Contains(chain, reached[0]) {
					t.Fatalf("%v in the order %v: %d is above %d, but not a parent", g, l, reached[0], v)
				}
				for _, e := range h.Up(reached[0]) {
					reached = append(reached, edges[e].To)
				}
			}
		}
		// A graph without the loops and with other arcs between the same vertices has the same edges.
		other := api.Graph{N: g.N}
		for _, a := range g.Arcs {
			if a.From != a.To {
				other.Arcs = append(other.Arcs, api.Arc{From: a.To, To: a.From}, a)
			}
		}
		if !slices.Equal(must(t, other, l).Edges(), edges) {
			t.Fatalf("the edges of %v and %v differ", g, other)
		}
		if fill := order.Fill(other, l); fill > len(edges) {
			t.Fatalf("%d edges were added to become %d", fill, len(edges))
		}
	}
}

func TestP40_1Large(t *testing.T) {
	// A grid of 60 by 60 vertices.
	const side = 60
	g := api.Graph{N: side * side}
	for v := range g.N {
		if v%side > 0 {
			g.Arcs = append(g.Arcs, api.Arc{From: v, To: v - 1})
		}
		if v >= side {
			g.Arcs = append(g.Arcs, api.Arc{From: v - side, To: v})
		}
	}
	l := order.MinDegree(g)
	if n := len(must(t, g, l).Edges()); n != len(g.Arcs)+order.Fill(g, l) {
		t.Errorf("%d edges", n)
	}
}

// TestP40_Aliasing checks that a hierarchy neither changes nor keeps its arguments, and gives out no memory of its own.
func TestP40_Aliasing(t *testing.T) {
	g, l := of(4, 0, 1, 1, 2, 2, 3, 3, 0), []int{0, 1, 2, 3}
	h := must(t, g, l)
	if !slices.Equal(g.Arcs, arcs(0, 1, 1, 2, 2, 3, 3, 0)) || !slices.Equal(l, []int{0, 1, 2, 3}) {
		t.Error("New changes its arguments")
	}
	state := func() string {
		return fmt.Sprint(h.Graph(), h.Order(), h.Edges(), h.Up(0), h.Up(1), h.Lower(3), h.Rank(2), h.Parent(1))
	}
	want := state()
	clear(g.Arcs)
	clear(l)
	clear(h.Graph().Arcs)
	clear(h.Order())
	clear(h.Edges())
	clear(h.Up(1))
	clear(h.Lower(3))
	if state() != want {
		t.Errorf("the hierarchy became %s", state())
	}
}

func TestP40_2Edge(t *testing.T) {
	r := rand.New(rand.NewSource(9))
	for range 200 {
		g, l := random(r)
		h := must(t, g, l)
		edges := h.Edges()
		for e, want := range edges {
			if got, ok := h.Edge(e); got != want || !ok {
				t.Fatalf("Edge(%d) is %v, %v, not %v", e, got, ok, want)
			}
		}
		for _, e := range []int{-1, len(edges), math.MinInt, math.MaxInt} {
			if got, ok := h.Edge(e); got != (api.Arc{}) || ok {
				t.Fatalf("Edge(%d) of %d is %v, %v", e, len(edges), got, ok)
			}
		}
	}
	var none *Hier
	if got, ok := none.Edge(0); got != (api.Arc{}) || ok {
		t.Errorf("Edge of a nil hierarchy is %v, %v", got, ok)
	}
}
