package order

import (
	"math"
	"math/rand"
	"slices"
	"testing"

	"mapmaker/api"
	"mapmaker/graph"
)

// of returns the graph with n vertices and the arcs from and to the vertices in turn.
func of(n int, ends ...int) api.Graph {
	g := api.Graph{N: n}
	for i := 0; i < len(ends); i += 2 {
		g.Arcs = append(g.Arcs, api.Arc{From: ends[i], To: ends[i+1]})
	}
	return g
}

// wrong has graphs that are not valid.
func wrong() []api.Graph {
	return []api.Graph{of(-1), of(1048577), of(math.MinInt), of(math.MaxInt), of(0, 0, 0), of(2, 0, 2), of(2, 0, 1, -1, 0), {N: 1, Arcs: make([]api.Arc, 4194305)}}
}

func random(r *rand.Rand) api.Graph {
	g := api.Graph{N: 1 + r.Intn(9)}
	for range r.Intn(2 * g.N) {
		g.Arcs = append(g.Arcs, api.Arc{From: r.Intn(g.N), To: r.Intn(g.N)})
	}
	return g
}

// matrix is an undirected graph as a table of pairs; a vertex that was eliminated has no pairs.
type matrix [][]bool

func matrixOf(g api.Graph) matrix {
	m := make(matrix, g.N)
	for v := range m {
		m[v] = make([]bool, g.N)
	}
	for _, a := range g.Arcs {
		if a.From != a.To {
			m[a.From][a.To], m[a.To][a.From] = true, true
		}
	}
	return m
}

func (m matrix) degree(v int) (n int) {
	for _, ok := range m[v] {
		if ok {
			n++
		}
	}
	return n
}

// eliminate returns the number of pairs that it adds.
func (m matrix) eliminate(v int) (added int) {
	for a := range m {
		for b := range a {
			if m[v][a] && m[v][b] && !m[a][b] {
				m[a][b], m[b][a] = true, true
				added++
			}
		}
	}
	for a := range m {
		m[v][a], m[a][v] = false, false
	}
	return added
}

// minDegree searches all vertices for the one to eliminate next.
func minDegree(g api.Graph) (out []int) {
	m := matrixOf(g)
	for range g.N {
		best := -1
		for v := range g.N {
			if !slices.Contains(out, v) && (best < 0 || m.degree(v) < m.degree(best)) {
				best = v
			}
		}
		m.eliminate(best)
		out = append(out, best)
	}
	return out
}

func fill(g api.Graph, l []int) (added int) {
	m := matrixOf(g)
	for _, v := range l {
		added += m.eliminate(v)
	}
	return added
}

func TestP39_1Check(t *testing.T) {
	for _, y := range []struct {
		n    int
		l    []int
		want api.Errno
	}{
		{0, nil, api.OK}, {1, []int{0}, api.OK}, {3, []int{2, 0, 1}, api.OK}, {-1, nil, api.OK}, {math.MinInt, nil, api.OK},
		{1, nil, api.ErrShort}, {3, []int{2, 0}, api.ErrShort}, {math.MaxInt, []int{2, 0, 7, math.MaxInt - 1}, api.ErrShort},
		{0, []int{0}, api.ErrRange}, {3, []int{0, 1, 3}, api.ErrRange}, {3, []int{-1, 0, 1}, api.ErrRange}, {2, []int{0, 1, 2}, api.ErrRange},
		{-1, []int{0}, api.ErrRange}, {-5, []int{-7}, api.ErrRange}, {math.MaxInt, []int{math.MaxInt}, api.ErrRange}, {3, []int{math.MinInt}, api.ErrRange},
		{3, []int{0, 1, 0}, api.ErrTwice}, {3, []int{2, 2}, api.ErrTwice}, {2, []int{0, 1, 1}, api.ErrTwice},
		// The elements in order; the length last.
		{2, []int{0, 0, 5}, api.ErrTwice}, {2, []int{0, 5, 0}, api.ErrRange}, {9, []int{1, 1}, api.ErrTwice}, {9, []int{1, 9}, api.ErrRange}, {3, []int{5, 5}, api.ErrRange},
	} {
		if err := Check(y.n, y.l); err != y.want {
			t.Errorf("Check(%d, %v) is %d, not %d", y.n, y.l, err, y.want)
		}
	}
}

func TestP39_1Ranks(t *testing.T) {
	if l := Ranks([]int{2, 0, 1}); !slices.Equal(l, []int{1, 2, 0}) {
		t.Errorf("Ranks(2 0 1) is %v", l)
	}
	r := rand.New(rand.NewSource(1))
	for n := range 50 {
		l := r.Perm(n)
		before := slices.Clone(l)
		ranks := Ranks(l)
		if len(ranks) != n || !slices.Equal(l, before) {
			t.Fatalf("Ranks(%v) is %v", before, ranks)
		}
		for i, v := range l {
			if ranks[v] != i {
				t.Fatalf("Ranks(%v) is %v", l, ranks)
			}
		}
	}
	for _, l := range [][]int{{1}, {0, 0}, {0, 2}, {-1, 0}, {1, 2, 3}, {0, 1, 1}, {math.MaxInt}, {math.MinInt}} {
		if ranks := Ranks(l); ranks != nil {
			t.Errorf("Ranks(%v) is %v, not nil", l, ranks)
		}
	}
}

func TestP39_2Examples(t *testing.T) {
	path := of(3, 0, 1, 1, 2)
	if l := MinDegree(path); !slices.Equal(l, []int{0, 1, 2}) {
		t.Errorf("MinDegree of a path is %v", l)
	}
	if n := Fill(path, []int{1, 0, 2}); n != 1 {
		t.Errorf("Fill of the order 1, 0, 2 is %d, not 1", n)
	}
	if n := Fill(path, []int{0, 1, 2}); n != 0 {
		t.Errorf("Fill of the order 0, 1, 2 is %d, not 0", n)
	}
	// Arcs of both directions, parallel ones and loops are one connection or none.
	if n := Fill(of(3, 1, 0, 0, 1, 1, 1, 2, 1, 2, 1), []int{1, 0, 2}); n != 1 {
		t.Errorf("Fill of a path with more arcs is %d, not 1", n)
	}
	star := of(5, 2, 0, 2, 1, 2, 3, 2, 4)
	if l := MinDegree(star); !slices.Equal(l, []int{0, 1, 3, 2, 4}) {
		t.Errorf("MinDegree of a star is %v", l)
	}
	if n := Fill(star, []int{2, 0, 1, 3, 4}); n != 6 {
		t.Errorf("Fill of a star from its center is %d, not 6", n)
	}
	if l := MinDegree(of(3)); !slices.Equal(l, []int{0, 1, 2}) {
		t.Errorf("MinDegree of separate vertices is %v", l)
	}
}

func TestP39_2MinDegree(t *testing.T) {
	r := rand.New(rand.NewSource(2))
	for range 5000 {
		g := random(r)
		if l, want := MinDegree(g), minDegree(g); !slices.Equal(l, want) {
			t.Fatalf("MinDegree(%v) is %v, not %v", g, l, want)
		}
	}
	// A grid of streets, whose degrees rise and fall often.
	const side = 12
	g := api.Graph{N: side * side}
	for v := range g.N {
		if v%side < side-1 {
			g.Arcs = append(g.Arcs, api.Arc{From: v, To: v + 1})
		}
		if v < g.N-side {
			g.Arcs = append(g.Arcs, api.Arc{From: v + side, To: v})
		}
	}
	if l, want := MinDegree(g), minDegree(g); !slices.Equal(l, want) {
		t.Errorf("MinDegree of streets is %v, not %v", l, want)
	}
}

func TestP39_2Fill(t *testing.T) {
	r := rand.New(rand.NewSource(3))
	sum := 0
	for range 5000 {
		g := random(r)
		l := r.Perm(g.N)
		n, want := Fill(g, l), fill(g, l)
		if n != want {
			t.Fatalf("Fill(%v, %v) is %d, not %d", g, l, n, want)
		}
		sum += n
	}
	if sum < 1000 {
		t.Errorf("only %d new pairs", sum)
	}
}

func TestP39_2Invalid(t *testing.T) {
	for _, g := range wrong() {
		if l := MinDegree(g); l != nil {
			t.Errorf("MinDegree of a graph with %d vertices is %v", g.N, l)
		}
		for _, l := range [][]int{nil, {0}, {0, 1}} {
			if n := Fill(g, l); n != -1 {
				t.Errorf("Fill of a graph with %d vertices is %d", g.N, n)
			}
		}
	}
	if l := MinDegree(api.Graph{}); l != nil {
		t.Errorf("MinDegree of no vertices is %v", l)
	}
	if n := Fill(api.Graph{}, nil); n != 0 {
		t.Errorf("Fill of no vertices is %d", n)
	}
	g := of(3, 0, 1, 1, 2)
	for _, l := range [][]int{nil, {0, 1}, {0, 1, 1}, {0, 1, 3}, {-1, 0, 1}, {0, 1, 2, 2}, {0, 1, 2, 3}, {0, 1, math.MaxInt}} {
		if n := Fill(g, l); n != -1 {
			t.Errorf("Fill of the order %v is %d, not -1", l, n)
		}
	}
}

func TestP39_3Forests(t *testing.T) {
	r := rand.New(rand.NewSource(4))
	for range 500 {
		names := r.Perm(1 + r.Intn(40))
		g := api.Graph{N: len(names)}
		for v := 1; v < g.N; v++ {
			if r.Intn(6) > 0 {
				g.Arcs = append(g.Arcs, api.Arc{From: names[v], To: names[r.Intn(v)]})
			}
		}
		l := MinDegree(g)
		if err := Check(g.N, l); err != api.OK {
			t.Fatalf("Check of MinDegree(%v) is %d", g, err)
		}
		if n := Fill(g, l); n != 0 {
			t.Fatalf("Fill(%v, %v) is %d, not 0", g, l, n)
		}
	}
	for range 500 {
		g := random(r)
		if err := Check(g.N, MinDegree(g)); err != api.OK {
			t.Fatalf("Check of MinDegree(%v) is %d", g, err)
		}
	}
}

func TestP39_2Large(t *testing.T) {
	g := api.Graph{N: 1 << 17}
	for v := range g.N {
		g.Arcs = append(g.Arcs, api.Arc{From: v, To: v / 2})
	}
	l := MinDegree(g)
	if Check(g.N, l) != api.OK || Fill(g, l) != 0 {
		t.Errorf("MinDegree of a large tree has %d vertices", len(l))
	}
}

func TestP39_Aliasing(t *testing.T) {
	g, l := of(4, 0, 1, 1, 2, 2, 3, 3, 0), []int{3, 1, 0, 2}
	arcs, list := slices.Clone(g.Arcs), slices.Clone(l)
	MinDegree(g)
	Fill(g, l)
	Ranks(l)
	Check(4, l)
	if !slices.Equal(g.Arcs, arcs) || !slices.Equal(l, list) || graph.Check(g) != api.OK {
		t.Error("the arguments have changed")
	}
}
