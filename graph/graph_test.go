package graph

import (
	"math"
	"math/rand"
	"reflect"
	"slices"
	"testing"

	"mapmaker/api"
)

// of returns the graph with n vertices and the arcs from and to the vertices in turn.
func of(n int, ends ...int) api.Graph {
	g := api.Graph{N: n}
	for i := 0; i < len(ends); i += 2 {
		g.Arcs = append(g.Arcs, api.Arc{From: ends[i], To: ends[i+1]})
	}
	return g
}

func same(a, b [][]int) bool { return slices.EqualFunc(a, b, slices.Equal) }

func sameGraph(a, b api.Graph) bool { return a.N == b.N && slices.Equal(a.Arcs, b.Arcs) }

func TestP37_1Check(t *testing.T) {
	most := make([]api.Arc, 4194304)
	over := make([]api.Arc, 4194305)
	for _, y := range []struct {
		g    api.Graph
		want api.Errno
	}{
		{api.Graph{}, api.OK}, {of(1), api.OK}, {of(1, 0, 0), api.OK}, {of(3, 0, 2, 2, 0, 0, 2, 1, 1), api.OK},
		{of(1048576), api.OK}, {of(1048576, 1048575, 0), api.OK}, {of(1048577), api.ErrLong}, {of(-1), api.ErrLong}, {of(math.MinInt), api.ErrLong}, {of(math.MaxInt), api.ErrLong},
		{api.Graph{N: 1, Arcs: most}, api.OK}, {api.Graph{N: 1, Arcs: over}, api.ErrLong}, {api.Graph{N: 0, Arcs: over}, api.ErrLong}, {api.Graph{N: 0, Arcs: most}, api.ErrRange},
		{of(0, 0, 0), api.ErrRange}, {of(2, 0, 2), api.ErrRange}, {of(2, 2, 0), api.ErrRange}, {of(2, -1, 0), api.ErrRange}, {of(2, 0, -1), api.ErrRange},
		{of(2, 0, 1, 1, 0, 5, 5), api.ErrRange}, {of(2, math.MaxInt, 0), api.ErrRange}, {of(2, 0, math.MinInt), api.ErrRange},
		// The number of vertices comes before the ends of arcs.
		{of(-1, 0, 0), api.ErrLong}, {of(1048577, -1, 0), api.ErrLong},
	} {
		if err := Check(y.g); err != y.want {
			t.Errorf("Check of %d vertices and %d arcs is %d, not %d", y.g.N, len(y.g.Arcs), err, y.want)
		}
	}
}

func TestP37_1Invalid(t *testing.T) {
	for _, g := range []api.Graph{of(-1), of(1048577), of(math.MaxInt), of(math.MinInt, 0, 0), of(0, 0, 0), of(2, 0, 2), of(2, -1, 0), of(2, 0, 1, 0, 7), {N: 1, Arcs: make([]api.Arc, 4194305)}} {
		if Out(g) != nil || In(g) != nil || Neighbours(g) != nil || Parts(g) != nil {
			t.Errorf("lists of a graph with %d vertices and %d arcs are not nil", g.N, len(g.Arcs))
		}
		if r := Reverse(g); r.N != 0 || r.Arcs != nil {
			t.Errorf("Reverse of a graph with %d vertices and %d arcs is not the zero graph", g.N, len(g.Arcs))
		}
	}
}

func TestP37_2Examples(t *testing.T) {
	g := of(3, 0, 1, 1, 0, 1, 1, 2, 2)
	if x := Neighbours(g); !same(x, [][]int{{1}, {0}, {}}) {
		t.Errorf("Neighbours is %v", x)
	}
	if x := Parts(g); !slices.Equal(x, []int{0, 0, 2}) {
		t.Errorf("Parts is %v", x)
	}
	if x := Out(g); !same(x, [][]int{{0}, {1, 2}, {3}}) {
		t.Errorf("Out is %v", x)
	}
	if x := In(g); !same(x, [][]int{{1}, {0, 2}, {3}}) {
		t.Errorf("In is %v", x)
	}
	if x := Reverse(g); !sameGraph(x, of(3, 1, 0, 0, 1, 1, 1, 2, 2)) {
		t.Errorf("Reverse is %v", x)
	}
}

func TestP37_2Empty(t *testing.T) {
	if g := of(0); len(Out(g)) != 0 || len(In(g)) != 0 || len(Neighbours(g)) != 0 || len(Parts(g)) != 0 || !sameGraph(Reverse(g), g) {
		t.Error("no vertices")
	}
	if g := of(2); !same(Out(g), [][]int{nil, nil}) || !same(In(g), [][]int{nil, nil}) || !same(Neighbours(g), [][]int{nil, nil}) || !slices.Equal(Parts(g), []int{0, 1}) || !sameGraph(Reverse(g), g) {
		t.Error("no arcs")
	}
}

func TestP37_2Parts(t *testing.T) {
	for _, y := range []struct {
		g    api.Graph
		want []int
	}{
		{of(5, 4, 3, 3, 2, 2, 1, 1, 0), []int{0, 0, 0, 0, 0}},
		{of(5, 0, 1, 1, 2, 2, 3, 3, 4), []int{0, 0, 0, 0, 0}},
		{of(6, 5, 4, 3, 2, 1, 5, 2, 0), []int{0, 1, 0, 0, 1, 1}},
		{of(6, 4, 5, 2, 3, 5, 3), []int{0, 1, 2, 2, 2, 2}},
		{of(4, 3, 3, 2, 2), []int{0, 1, 2, 3}},
		{of(4, 3, 1, 2, 1), []int{0, 1, 1, 1}},
	} {
		if x := Parts(y.g); !slices.Equal(x, y.want) {
			t.Errorf("Parts of %v is %v, not %v", y.g, x, y.want)
		}
	}
}

// random returns a graph with few arcs, some of them parallel or loops.
func random(r *rand.Rand) api.Graph {
	g := api.Graph{N: 1 + r.Intn(12)}
	for range r.Intn(2 * g.N) {
		g.Arcs = append(g.Arcs, api.Arc{From: r.Intn(g.N), To: r.Intn(g.N)})
	}
	return g
}

// connected returns, for each vertex, the vertices that it reaches in any direction.
func connected(g api.Graph) [][]bool {
	reach := make([][]bool, g.N)
	for v := range reach {
		reach[v] = make([]bool, g.N)
		reach[v][v] = true
	}
	for _, a := range g.Arcs {
		reach[a.From][a.To], reach[a.To][a.From] = true, true
	}
	for w := range g.N {
		for u := range g.N {
			for v := range g.N {
				reach[u][v] = reach[u][v] || reach[u][w] && reach[w][v]
			}
		}
	}
	return reach
}

func TestP37_2Random(t *testing.T) {
	r := rand.New(rand.NewSource(1))
	for range 3000 {
		g := random(r)
		reach := connected(g)
		out, in, next, parts, back := Out(g), In(g), Neighbours(g), Parts(g), Reverse(g)
		if len(out) != g.N || len(in) != g.N || len(next) != g.N || len(parts) != g.N || back.N != g.N || len(back.Arcs) != len(g.Arcs) {
			t.Fatalf("wrong lengths for %v", g)
		}
		for v := range g.N {
			var leave, enter, others []int
			for i, a := range g.Arcs {
				if a.From == v {
					leave = append(leave, i)
				}
				if a.To == v {
					enter = append(enter, i)
				}
			}
			for u := range g.N {
				if u != v && (slices.Contains(g.Arcs, api.Arc{From: u, To: v}) || slices.Contains(g.Arcs, api.Arc{From: v, To: u})) {
					others = append(others, u)
				}
			}
			if !slices.Equal(out[v], leave) || !slices.Equal(in[v], enter) || !slices.Equal(next[v], others) || parts[v] != slices.Index(reach[v], true) {
				t.Fatalf("%v: vertex %d has %v, %v, %v, %d", g, v, out[v], in[v], next[v], parts[v])
			}
		}
		for i, a := range g.Arcs {
			if back.Arcs[i] != (api.Arc{From: a.To, To: a.From}) {
				t.Fatalf("Reverse of %v is %v", g, back)
			}
		}
	}
}

func TestP37_2Large(t *testing.T) {
	const n = 1 << 20
	g := api.Graph{N: n}
	for v := n - 1; v > 0; v-- {
		g.Arcs = append(g.Arcs, api.Arc{From: v, To: v - 1})
	}
	for v, part := range Parts(g) {
		if part != 0 {
			t.Fatalf("vertex %d of a path belongs to %d", v, part)
		}
	}
	if out := Out(g); len(out[0]) != 0 || !slices.Equal(out[n-1], []int{0}) || !slices.Equal(Neighbours(g)[5], []int{4, 6}) {
		t.Error("a path of all vertices")
	}
}

func TestP37_3Derived(t *testing.T) {
	r := rand.New(rand.NewSource(2))
	for range 1000 {
		g := random(r)
		if !sameGraph(Reverse(Reverse(g)), g) {
			t.Fatalf("reversing %v twice", g)
		}
		if !same(In(g), Out(Reverse(g))) || !same(Out(g), In(Reverse(g))) {
			t.Fatalf("In of %v is not Out of its reverse", g)
		}
		next := Neighbours(g)
		for u, l := range next {
			for _, v := range l {
				if !slices.Contains(next[v], u) {
					t.Fatalf("Neighbours of %v is not symmetric", g)
				}
			}
		}
	}
}

func TestP37_Aliasing(t *testing.T) {
	g := of(4, 0, 1, 1, 2, 2, 0, 3, 3)
	g.Arcs = g.Arcs[:3]
	before := slices.Clone(g.Arcs[:4])
	back := Reverse(g)
	back.Arcs[0] = api.Arc{From: 9, To: 9}
	_ = append(back.Arcs, api.Arc{From: 9, To: 9})
	for _, l := range [][][]int{Out(g), In(g), Neighbours(g)} {
		// What is appended to one list must not appear in another one.
		want := slices.Clone(l[1])
		l[0] = append(l[0], 77, 78, 79)
		if !slices.Equal(l[1], want) {
			t.Error("lists of one result share memory")
		}
	}
	Parts(g)[0] = 5
	if !reflect.DeepEqual(g.Arcs[:4], before) {
		t.Error("the graph has changed")
	}
}
