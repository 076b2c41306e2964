package turns

import (
	"math"
	"math/rand"
	"reflect"
	"slices"
	"strings"
	"testing"

	"mapmaker/api"
	"mapmaker/dijkstra"
	"mapmaker/graph"
	"mapmaker/roads"
)

func piece(from, to, way int) api.Piece {
	return api.Piece{From: from, To: to, Way: way, Len: 5, Class: 2}
}

// network returns a network with the nodes 10, 20 and so on and the pieces.
func network(nodes int, l ...api.Piece) api.Roads {
	r := api.Roads{Pieces: l}
	for v := range nodes {
		r.Nodes, r.At = append(r.Nodes, 10*(v+1)), append(r.At, api.Point{X: v})
	}
	return r
}

// wrong returns networks that are not valid.
func wrong() []api.Roads {
	good := func() api.Roads { return network(3, piece(0, 1, 1), piece(1, 2, 2), piece(2, 1, 2)) }
	a, b, c, d, e := good(), good(), good(), good(), good()
	a.At = a.At[1:]
	b.Nodes[1] = 10
	c.Pieces[1].To = 3
	d.Pieces[1].Way = 0
	e.Pieces[2].Plan.First = 1
	return []api.Roads{a, b, c, d, e}
}

func member(kind, id int, role string) api.Member {
	return api.Member{Ref: api.Ref{Kind: kind, ID: id}, Role: role}
}

// dataset returns a dataset with the nodes 1 to 4, the ways 5 to 7 and the relations.
func dataset(l ...api.Rel) api.Data {
	d := api.Data{Rels: l}
	for id := 1; id <= 4; id++ {
		d.Nodes = append(d.Nodes, api.Node{ID: id})
	}
	for id := 5; id <= 7; id++ {
		d.Ways = append(d.Ways, api.Way{ID: id, Nodes: []int{1, 2}})
	}
	return d
}

func relation(id int, restriction string, l ...api.Member) api.Rel {
	return api.Rel{ID: id, Members: l, Tags: []api.Tag{{Key: "restriction", Val: restriction}, {Key: "type", Val: "restriction"}}}
}

func TestP47_1Of(t *testing.T) {
	from, via, to := member(api.KWay, 5, "from"), member(api.KNode, 2, "via"), member(api.KWay, 6, "to")
	no, only := []api.Turn{{From: 5, Via: 2, To: 6}}, []api.Turn{{From: 5, Via: 2, To: 6, Only: true}}
	untyped, other, bare := relation(9, "no_left_turn", from, via, to), relation(9, "no_left_turn", from, via, to), relation(9, "", from, via, to)
	untyped.Tags = untyped.Tags[:1]
	other.Tags[1].Val = "route"
	bare.Tags = bare.Tags[1:]
	for _, x := range []struct {
		name string
		r    api.Rel
		want []api.Turn
	}{
		{"no_", relation(9, "no_left_turn", from, via, to), no},
		{"only_", relation(9, "only_straight_on", from, via, to), only},
		{"the prefixes alone", relation(9, "no_", from, via, to), no},
		{"the prefix only_ alone", relation(9, "only_", from, via, to), only},
		{"another order", relation(9, "no_left_turn", to, via, from), no},
		{"one way twice", relation(9, "no_u_turn", from, via, member(api.KWay, 5, "to")), []api.Turn{{From: 5, Via: 2, To: 5}}},
		{"other members", relation(9, "no_left_turn", member(api.KNode, 1, ""), from, via, member(api.KWay, 7, "stop"), to), no},
		{"roles with other kinds", relation(9, "no_left_turn", member(api.KNode, 1, "from"), from, member(api.KWay, 7, "via"), via, member(api.KNode, 1, "to"), to), no},
		{"a node as from", relation(9, "no_left_turn", member(api.KNode, 1, "from"), via, to), nil},
		{"a node as to", relation(9, "no_left_turn", from, via, member(api.KNode, 1, "to")), nil},
		{"a way as via", relation(9, "no_left_turn", from, member(api.KWay, 7, "via"), to), nil},
		{"no from", relation(9, "no_left_turn", via, to), nil},
		{"no via", relation(9, "no_left_turn", from, to), nil},
		{"no to", relation(9, "no_left_turn", from, via), nil},
		{"no members", relation(9, "no_left_turn"), nil},
		{"two from", relation(9, "no_left_turn", from, member(api.KWay, 7, "from"), via, to), nil},
		{"two equal from", relation(9, "no_left_turn", from, from, via, to), nil},
		{"two to", relation(9, "no_left_turn", from, via, to, member(api.KWay, 7, "to")), nil},
		{"two via", relation(9, "no_left_turn", from, via, to, member(api.KNode, 3, "via")), nil},
		{"another value", relation(9, "left_no_", from, via, to), nil},
		{"no", relation(9, "no", from, via, to), nil},
		{"only", relation(9, "only", from, via, to), nil},
		{"capitals", relation(9, "No_left_turn", from, via, to), nil},
		{"an empty value", relation(9, "", from, via, to), nil},
		{"no type", untyped, nil}, {"another type", other, nil}, {"no restriction", bare, nil},
	} {
		if got := Of(dataset(x.r)); !slices.Equal(got, x.want) {
			t.Errorf("Of a relation with %s is %v, not %v", x.name, got, x.want)
		}
	}
	all := Of(dataset(relation(3, "no_a", from, via, to), relation(4, "none", from, via, to), relation(5, "only_a", to, via, from), relation(8, "no_b", from, via, to), relation(9, "no_c", from, member(api.KNode, 1, "via"), to)))
	if want := []api.Turn{no[0], only[0], no[0], {From: 5, Via: 1, To: 6}}; !slices.Equal(all, want) {
		t.Errorf("Of several relations is %v, not %v", all, want)
	}
}

func TestP47_1Invalid(t *testing.T) {
	good := relation(9, "no_left_turn", member(api.KWay, 5, "from"), member(api.KNode, 2, "via"), member(api.KWay, 6, "to"))
	missing := relation(10, "no_left_turn", member(api.KWay, 8, "from"))
	long := relation(10, "no_left_turn", member(api.KWay, 5, strings.Repeat("x", api.MaxText+1)))
	for _, d := range []api.Data{dataset(good, missing), dataset(good, long), dataset(good, good)} {
		if got := Of(d); len(got) != 0 {
			t.Errorf("Of a dataset that is not valid is %v", got)
		}
	}
	if got := Of(api.Data{}); len(got) != 0 {
		t.Errorf("Of the empty dataset is %v", got)
	}
}

func TestP47_2Example(t *testing.T) {
	r := network(3, piece(0, 1, 1), piece(1, 2, 3), piece(1, 2, 4))
	l := []api.Turn{{From: 1, Via: 20, To: 3}}
	if Allowed(r, l, 0, 1) || !Allowed(r, l, 0, 2) || !Allowed(r, nil, 0, 1) {
		t.Error("the turn from way 1 over node 20 to way 3")
	}
}

func TestP47_2Turns(t *testing.T) {
	// Way 1 leads to node 20, where the ways 2 and 3 begin.
	r := network(4, piece(0, 1, 1), piece(1, 2, 2), piece(1, 3, 3))
	no := func(from, via, to int) api.Turn { return api.Turn{From: from, Via: via, To: to} }
	only := func(from, via, to int) api.Turn { return api.Turn{From: from, Via: via, To: to, Only: true} }
	for _, x := range []struct {
		name      string
		l         []api.Turn
		two, more bool // whether ways 2 and 3 may follow
	}{
		{"none", nil, true, true},
		{"no", []api.Turn{no(1, 20, 2)}, false, true},
		{"another via", []api.Turn{no(1, 10, 2), no(1, 1, 3), only(1, 30, 9)}, true, true},
		{"another from", []api.Turn{no(2, 20, 2), only(2, 20, 9)}, true, true},
		{"another to", []api.Turn{no(1, 20, 9)}, true, true},
		{"only", []api.Turn{only(1, 20, 2)}, true, false},
		{"only both", []api.Turn{only(1, 20, 2), only(1, 20, 3)}, true, true},
		{"only another", []api.Turn{only(1, 20, 9)}, false, false},
		{"only and no", []api.Turn{only(1, 20, 2), no(1, 20, 2)}, false, false},
		{"only one, no other", []api.Turn{no(1, 20, 3), only(1, 20, 2)}, true, false},
		{"no both", []api.Turn{no(1, 20, 3), no(1, 20, 2)}, false, false},
	} {
		if a, b := Allowed(r, x.l, 0, 1), Allowed(r, x.l, 0, 2); a != x.two || b != x.more {
			t.Errorf("with %s Allowed is %v and %v", x.name, a, b)
		}
	}
}

func TestP47_2Back(t *testing.T) {
	there, back := piece(0, 1, 1), piece(1, 0, 1)
	for _, x := range []struct {
		name string
		l    []api.Piece // besides these
		want bool
	}{
		{"a dead end", nil, true},
		{"another way", []api.Piece{piece(1, 2, 2)}, false},
		{"the same way goes on", []api.Piece{piece(1, 2, 1)}, false},
		{"another way back", []api.Piece{piece(1, 0, 2)}, false},
		{"the same way back twice", []api.Piece{piece(1, 0, 1)}, true},
		{"a way that only enters", []api.Piece{piece(2, 1, 2)}, true},
		{"a way elsewhere", []api.Piece{piece(0, 2, 2)}, true},
		{"a loop", []api.Piece{piece(1, 1, 1)}, false},
	} {
		r := network(3, append([]api.Piece{there, back}, x.l...)...)
		if got := Allowed(r, nil, 0, 1); got != x.want {
			t.Errorf("with %s the way back is %v", x.name, got)
		}
	}
	r := network(3, there, piece(1, 0, 2), piece(1, 2, 1))
	if !Allowed(r, nil, 0, 1) {
		t.Error("another way may lead back")
	}
	if r = network(2, there, back); Allowed(r, []api.Turn{{From: 1, Via: 20, To: 1}}, 0, 1) {
		t.Error("no_u_turn at a dead end is not obeyed")
	}
}

func TestP47_2Invalid(t *testing.T) {
	r := network(3, piece(0, 1, 1), piece(1, 2, 2))
	for _, x := range [][2]int{{1, 0}, {0, 0}, {0, 2}, {2, 0}, {-1, 0}, {0, -1}, {math.MinInt, math.MaxInt}, {0, math.MaxInt}} {
		if Allowed(r, nil, x[0], x[1]) {
			t.Errorf("%v is allowed", x)
		}
	}
	for _, r := range wrong() {
		if Allowed(r, nil, 0, 1) {
			t.Errorf("a turn of %v is allowed", r)
		}
	}
}

// random returns a network, with some loops and parallel pieces, and turns.
func random(r *rand.Rand) (api.Roads, []api.Turn) {
	n := network(1 + r.Intn(4))
	k := len(n.Nodes)
	for range r.Intn(9) {
		p := piece(r.Intn(k), r.Intn(k), 1+r.Intn(3))
		if r.Intn(3) == 0 {
			p.Plan = api.Schedule{Closed: []api.Span{{From: r.Intn(9), To: 10}}, Every: 60}
		}
		n.Pieces = append(n.Pieces, p)
		if r.Intn(2) == 0 {
			n.Pieces = append(n.Pieces, piece(p.To, p.From, p.Way))
		}
	}
	var l []api.Turn
	for range r.Intn(5) {
		l = append(l, api.Turn{From: 1 + r.Intn(3), Via: 10 * (1 + r.Intn(k)), To: 1 + r.Intn(3), Only: r.Intn(3) == 0})
	}
	return n, l
}

// follows is Allowed by a search through all pieces and turns.
func follows(n api.Roads, l []api.Turn, a, b int) bool {
	p, q := n.Pieces[a], n.Pieces[b]
	if p.To != q.From {
		return false
	}
	if q.To == p.From && q.Way == p.Way {
		for _, o := range n.Pieces {
			if o.From == p.To && (o.Way != p.Way || o.To != p.From) {
				return false
			}
		}
	}
	onlys, chosen := 0, 0
	for _, x := range l {
		if x.From != p.Way || x.Via != n.Nodes[p.To] {
			continue
		}
		switch {
		case !x.Only && x.To == q.Way:
			return false
		case x.Only && x.To == q.Way:
			chosen++
			onlys++
		case x.Only:
			onlys++
		}
	}
	return onlys == 0 || chosen > 0
}

func TestP47_2AllPieces(t *testing.T) {
	r := rand.New(rand.NewSource(1))
	allowed := 0
	for range 3000 {
		n, l := random(r)
		for a := range n.Pieces {
			for b := range n.Pieces {
				want := follows(n, l, a, b)
				if got := Allowed(n, l, a, b); got != want {
					t.Fatalf("Allowed(%v, %v, %d, %d) is %v", n, l, a, b, got)
				}
				if want {
					allowed++
				}
			}
		}
	}
	if allowed < 5000 {
		t.Errorf("only %d turns are allowed", allowed)
	}
}

func TestP47_3Vertices(t *testing.T) {
	r := network(3, piece(0, 1, 1), piece(1, 2, 2))
	for v := range 3 {
		if Source(r, v) != 2+v || Target(r, v) != 5+v {
			t.Errorf("Source and Target of %d are %d and %d", v, Source(r, v), Target(r, v))
		}
	}
	if r := network(3); Source(r, 0) != 0 || Target(r, 0) != 3 || Source(r, 2) != 2 || Target(r, 2) != 5 {
		t.Error("Source and Target without pieces")
	}
	for _, v := range []int{-1, 3, math.MinInt, math.MaxInt} {
		if Source(r, v) != -1 || Target(r, v) != -1 {
			t.Errorf("Source and Target of %d are %d and %d", v, Source(r, v), Target(r, v))
		}
	}
	for _, r := range wrong() {
		if Source(r, 0) != -1 || Target(r, 0) != -1 {
			t.Errorf("Source and Target of %v are %d and %d", r, Source(r, 0), Target(r, 0))
		}
	}
}

func TestP47_3Expand(t *testing.T) {
	r := rand.New(rand.NewSource(2))
	for range 3000 {
		n, l := random(r)
		count, nodes := len(n.Pieces), len(n.Nodes)
		want := api.Graph{N: count + 2*nodes}
		for b, p := range n.Pieces {
			want.Arcs = append(want.Arcs, api.Arc{From: count + p.From, To: b})
		}
		for a := range n.Pieces {
			for b := range n.Pieces {
				if follows(n, l, a, b) {
					want.Arcs = append(want.Arcs, api.Arc{From: a, To: b})
				}
			}
		}
		for a, p := range n.Pieces {
			want.Arcs = append(want.Arcs, api.Arc{From: a, To: count + nodes + p.To})
		}
		got := Expand(n, l)
		if got.N != want.N || !slices.Equal(got.Arcs, want.Arcs) || graph.Check(got) != api.OK {
			t.Fatalf("Expand(%v, %v) is %v, not %v", n, l, got, want)
		}
		w := make([]int, count)
		for i := range w {
			w[i] = []int{-1, 0, r.Intn(9), api.MaxWeight}[r.Intn(4)]
		}
		weights, err := Weights(n, l, w)
		plans := Plans(n, l)
		if err != api.OK || len(weights) != len(got.Arcs) || len(plans) != len(got.Arcs) {
			t.Fatalf("there are %d weights, %d plans, %d arcs, %d", len(weights), len(plans), len(got.Arcs), err)
		}
		for i, a := range got.Arcs {
			weight, plan := 0, api.Schedule{}
			if a.To < count {
				weight, plan = w[a.To], n.Pieces[a.To].Plan
			}
			if weights[i] != weight || plans[i].First != plan.First || plans[i].Every != plan.Every || !slices.Equal(plans[i].Closed, plan.Closed) {
				t.Fatalf("the arc %v has the weight %d and the plan %v", a, weights[i], plans[i])
			}
		}
	}
}

func TestP47_3Invalid(t *testing.T) {
	for _, r := range append(wrong(), api.Roads{}) {
		g := Expand(r, nil)
		plans := Plans(r, nil)
		pieces, ok := Pieces(r, []int{0}, nil)
		if g.N != 0 || len(g.Arcs) != 0 || len(plans) != 0 || len(pieces) != 0 || ok {
			t.Errorf("Expand of %v is %v, Plans %v, Pieces %v, %v", r, g, plans, pieces, ok)
		}
	}
	for _, r := range wrong() {
		for _, w := range [][]int{nil, {1, 1, 1}, {-2, 1, 1}} {
			if got, err := Weights(r, nil, w); err != api.ErrArg || len(got) != 0 {
				t.Errorf("Weights of a bad network is %v, %d", got, err)
			}
		}
	}
	r := network(3, piece(0, 1, 1), piece(1, 2, 2))
	for _, w := range [][]int{nil, {1}, {1, 1, 1}, {1, -2}, {api.MaxWeight + 1, 1}, {math.MinInt, 1}, {1, math.MaxInt}} {
		if got, err := Weights(r, nil, w); err != api.ErrWeight || len(got) != 0 {
			t.Errorf("Weights with %v is %v, %d", w, got, err)
		}
	}
	if got, err := Weights(r, nil, []int{-1, api.MaxWeight}); err != api.OK || !slices.Equal(got, []int{-1, api.MaxWeight, api.MaxWeight, 0, 0}) {
		t.Errorf("Weights is %v, %d", got, err)
	}
	if got, err := Weights(api.Roads{}, nil, nil); err != api.OK || len(got) != 0 {
		t.Errorf("Weights of the empty network is %v, %d", got, err)
	}
}

func TestP47_3Pieces(t *testing.T) {
	// The arcs are: 0-2 enter the pieces, 3 from 0 to 1, 4 from 1 to 2, 5-7 leave the pieces.
	r := network(4, piece(0, 1, 1), piece(1, 2, 2), piece(2, 3, 2))
	for _, x := range []struct {
		path, want []int
		ok         bool
	}{
		{[]int{0, 5}, []int{0}, true}, {[]int{2, 7}, []int{2}, true}, {[]int{0, 3, 6}, []int{0, 1}, true}, {[]int{0, 3, 4, 7}, []int{0, 1, 2}, true},
		{nil, nil, false}, {[]int{0}, nil, false}, {[]int{5}, nil, false}, {[]int{3}, nil, false}, {[]int{3, 6}, nil, false}, {[]int{0, 3}, nil, false},
		{[]int{0, 6}, nil, false}, {[]int{0, 4, 7}, nil, false}, {[]int{0, 0, 5}, nil, false}, {[]int{0, 5, 5}, nil, false}, {[]int{0, 5, 1, 6}, nil, false},
		{[]int{-1, 5}, nil, false}, {[]int{8}, nil, false}, {[]int{0, 8}, nil, false}, {[]int{0, -1}, nil, false}, {[]int{math.MinInt, math.MaxInt}, nil, false},
	} {
		if got, ok := Pieces(r, x.path, nil); ok != x.ok || !slices.Equal(got, x.want) {
			t.Errorf("Pieces of %v is %v, %v, not %v, %v", x.path, got, ok, x.want, x.ok)
		}
	}
	for _, r := range append(wrong(), api.Roads{}, network(3)) {
		if got, ok := Pieces(r, nil, nil); ok || len(got) != 0 {
			t.Errorf("Pieces of the empty path in %v is %v, %v", r, got, ok)
		}
	}
	// With a turn the arcs have other numbers.
	l := []api.Turn{{From: 1, Via: 20, To: 2}}
	if got, ok := Pieces(r, []int{0, 3, 6}, l); ok || len(got) != 0 {
		t.Errorf("Pieces with a turn is %v, %v", got, ok)
	}
	if got, ok := Pieces(r, []int{1, 3, 6}, l); !ok || !slices.Equal(got, []int{1, 2}) {
		t.Errorf("Pieces with a turn is %v, %v", got, ok)
	}
}

// sequences returns all sequences of at most most pieces from u to v in which all turns are allowed.
func sequences(n api.Roads, l []api.Turn, u, v, most int) (out [][]int) {
	var extend func(s []int)
	extend = func(s []int) {
		if n.Pieces[s[len(s)-1]].To == v {
			out = append(out, slices.Clone(s))
		}
		if len(s) == most {
			return
		}
		for b := range n.Pieces {
			if follows(n, l, s[len(s)-1], b) {
				extend(append(slices.Clone(s), b))
			}
		}
	}
	for a, p := range n.Pieces {
		if p.From == u {
			extend([]int{a})
		}
	}
	return out
}

// paths returns the pieces of all paths of at most most + 1 arcs from s to t in the graph.
func paths(t *testing.T, n api.Roads, l []api.Turn, from, to, most int) (out [][]int) {
	g := Expand(n, l)
	var extend func(at int, path []int)
	extend = func(at int, path []int) {
		if at == to {
			s, ok := Pieces(n, path, l)
			if !ok {
				t.Fatalf("Pieces of the path %v is false", path)
			}
			out = append(out, s)
		}
		if len(path) > most {
			return
		}
		for i, a := range g.Arcs {
			if a.From == at {
				extend(a.To, append(slices.Clone(path), i))
			}
		}
	}
	extend(from, nil)
	return out
}

func TestP47_4Sequences(t *testing.T) {
	r := rand.New(rand.NewSource(3))
	found := 0
	for range 500 {
		n, l := random(r)
		u, v := r.Intn(len(n.Nodes)), r.Intn(len(n.Nodes))
		if u == v {
			continue
		}
		want, got := sequences(n, l, u, v, 4), paths(t, n, l, Source(n, u), Target(n, v), 4)
		slices.SortFunc(want, slices.Compare)
		slices.SortFunc(got, slices.Compare)
		if !slices.EqualFunc(got, want, func(a, b []int) bool { return slices.Equal(a, b) }) {
			t.Fatalf("the paths of %v, %v from %d to %d have the pieces %v, not %v", n, l, u, v, got, want)
		}
		found += len(want)
	}
	if found < 1000 {
		t.Errorf("only %d sequences were found", found)
	}
}

func TestP47_4Costs(t *testing.T) {
	r := rand.New(rand.NewSource(4))
	for range 500 {
		n, l := random(r)
		w := make([]int, len(n.Pieces))
		for i := range w {
			w[i] = r.Intn(9) - 1
		}
		weights, _ := Weights(n, l, w)
		u, v := r.Intn(len(n.Nodes)), r.Intn(len(n.Nodes))
		path, cost, err := dijkstra.Path(Expand(n, l), weights, Source(n, u), Target(n, v))
		least := api.Inf
		// A shortest sequence contains no piece twice.
		for _, s := range sequences(n, l, u, v, min(len(n.Pieces), 5)) {
			sum := 0
			for _, a := range s {
				sum += w[a]
			}
			if !slices.ContainsFunc(s, func(a int) bool { return w[a] < 0 }) {
				least = min(least, sum)
			}
		}
		if err != api.OK {
			if least < api.Inf {
				t.Fatalf("there is no path, but a sequence with the cost %d", least)
			}
			continue
		}
		s, ok := Pieces(n, path, l)
		sum := 0
		for _, a := range s {
			sum += w[a]
		}
		if !ok || sum != cost || cost > least || len(s) <= 5 && cost != least {
			t.Fatalf("the path %v has the cost %d, its pieces %v %d, and the best sequence %d", path, cost, s, sum, least)
		}
	}
}

func TestP47_Large(t *testing.T) {
	d := api.Data{}
	for id := 1; id <= 1500; id++ {
		d.Nodes = append(d.Nodes, api.Node{ID: id, At: api.Coord{Lon: id * 1000000}})
	}
	d.Ways = []api.Way{{ID: 1, Tags: []api.Tag{{Key: "highway", Val: "primary"}}}}
	for id := 1; id <= 1500; id++ {
		d.Ways[0].Nodes = append(d.Ways[0].Nodes, id)
	}
	r, err := roads.Build(d)
	if err != api.OK || len(r.Pieces) != 2*1499 {
		t.Fatalf("Build has %d pieces, %d", len(r.Pieces), err)
	}
	g := Expand(r, nil)
	// Straight on in both directions, and back at both ends.
	if want := 2*2998 + 2*1498 + 2; len(g.Arcs) != want {
		t.Errorf("Expand has %d arcs, not %d", len(g.Arcs), want)
	}
}

func TestP47_Aliasing(t *testing.T) {
	plan := api.Schedule{Closed: []api.Span{{From: 1, To: 2}}}
	n := network(2, piece(0, 1, 1), piece(1, 0, 2), piece(0, 1, 9))
	n.Pieces[0].Plan = plan
	n.Pieces = n.Pieces[:2]
	l := []api.Turn{{From: 1, Via: 20, To: 1}, {From: 2, Via: 10, To: 7}, {From: 9}}
	w, path := []int{3, 4, 77}, []int{0, 2, 5, 77}
	saved := []any{slices.Clone(n.Pieces[:3]), slices.Clone(l), slices.Clone(w), slices.Clone(path)}
	g := Expand(n, l[:2])
	weights, _ := Weights(n, l[:2], w[:2])
	plans := Plans(n, l[:2])
	pieces, ok := Pieces(n, path[:3], l[:2])
	Allowed(n, l[:2], 0, 1)
	Of(dataset(relation(9, "no_left_turn")))
	if !reflect.DeepEqual(saved, []any{n.Pieces[:3], l, w, path}) {
		t.Error("an argument is changed")
	}
	if !ok || !slices.Equal(pieces, []int{0, 1}) {
		t.Fatalf("Pieces is %v, %v", pieces, ok)
	}
	arcs, costs := slices.Clone(g.Arcs), slices.Clone(weights)
	plan.Closed[0].From = 0
	clear(n.Pieces)
	clear(w)
	clear(path)
	var closed []int // the arcs that enter piece 0
	for i, a := range arcs {
		if a.To == 0 {
			closed = append(closed, i)
		}
	}
	if len(closed) != 2 {
		t.Fatalf("%d arcs enter piece 0", len(closed))
	}
	plans[closed[0]].Closed[0].From = 99
	if plans[closed[1]].Closed[0].From != 1 {
		t.Error("two plans, or a plan and a piece, share memory")
	}
	if !slices.Equal(g.Arcs, arcs) || !slices.Equal(weights, costs) || !slices.Equal(pieces, []int{0, 1}) {
		t.Error("a result shares memory with an argument")
	}
}
