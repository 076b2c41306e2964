package isochrone

import (
	"cmp"
	"math"
	"math/rand"
	"slices"
	"strings"
	"testing"

	"mapmaker/api"
	"mapmaker/grid"
	"mapmaker/hull"
	"mapmaker/roads"
	"mapmaker/traffic"
	"mapmaker/travel"
)

// tagList returns the tags whose keys and values are given in turn, in the order of the keys.
func tagList(l ...string) (out []api.Tag) {
	for i := 0; i < len(l); i += 2 {
		out = append(out, api.Tag{Key: l[i], Val: l[i+1]})
	}
	slices.SortFunc(out, func(a, b api.Tag) int { return strings.Compare(a.Key, b.Key) })
	return out
}

func node(id, x, y int) api.Node {
	c, _ := grid.Center(api.Point{X: x, Y: y})
	return api.Node{ID: id, At: c}
}

// primary returns a road on which a grid unit takes the time 32.
func primary(id int, nodes ...int) api.Way {
	return api.Way{ID: id, Nodes: nodes, Tags: tagList("highway", "primary")}
}

func oneway(id int, nodes ...int) api.Way {
	return api.Way{ID: id, Nodes: nodes, Tags: tagList("highway", "primary", "oneway", "yes")}
}

func restriction(id int, value string, from, via, to int) api.Rel {
	part := func(kind, id int, role string) api.Member {
		return api.Member{Ref: api.Ref{Kind: kind, ID: id}, Role: role}
	}
	return api.Rel{ID: id, Members: []api.Member{part(api.KWay, from, "from"), part(api.KNode, via, "via"), part(api.KWay, to, "to")}, Tags: tagList("restriction", value, "type", "restriction")}
}

// square is a dataset with a two-way road over the nodes 20, 10, 40 at the corners of a square, a one-way road from node 10 to the fourth corner 30, an island 50, 60, and a node 70 beside all roads. A side takes the time 320.
func square() api.Data {
	return api.Data{
		Nodes: []api.Node{node(10, 100, 100), node(20, 110, 100), node(30, 110, 110), node(40, 100, 110), node(50, 500, 500), node(60, 510, 500), node(70, 105, 105)},
		Ways:  []api.Way{primary(1, 20, 10, 40), oneway(2, 10, 30), primary(3, 50, 60)},
	}
}

// diagonal is the time from node 10 to node 30 of the square: 2 for each unit of the root of 256 * 200.
const diagonal = 2 * 226

func newNet(t *testing.T, d api.Data) *travel.Net {
	t.Helper()
	n, err := travel.New(d)
	if n == nil || err != api.OK {
		t.Fatalf("travel.New(%v) returns %d", d, err)
	}
	return n
}

func report(t *testing.T, n *travel.Net, at int, l ...api.Report) {
	t.Helper()
	if _, err := n.Report(l, at); err != api.OK {
		t.Fatalf("Report(%v, %d) returns %d", l, at, err)
	}
}

// always returns a report that is in effect until the time 100.
func always(way, percent int) api.Report {
	return api.Report{Way: way, Percent: percent, Until: 100}
}

func zone(t *testing.T, n *travel.Net, from, limit int) Zone {
	t.Helper()
	z, err := Of(n, from, limit)
	if err != api.OK {
		t.Fatalf("Of(%d, %d) returns %d", from, limit, err)
	}
	return z
}

// pairs returns the elements whose fields are given in turn.
func pairs(l ...int) (out []api.Reached) {
	for i := 0; i < len(l); i += 2 {
		out = append(out, api.Reached{ID: l[i], Cost: l[i+1]})
	}
	return out
}

// pts returns the points with these coordinates in turn.
func pts(l ...int) (out []api.Point) {
	for i := 0; i < len(l); i += 2 {
		out = append(out, api.Point{X: l[i], Y: l[i+1]})
	}
	return out
}

func same(a, b Zone) bool {
	return slices.Equal(a.Nodes, b.Nodes) && slices.Equal(a.Hull, b.Hull) && slices.Equal(a.Half, b.Half)
}

func TestP50_1Example(t *testing.T) {
	n := newNet(t, square())
	for i, id := range []int{10, 20, 30, 40, 50, 60} {
		z := zone(t, n, id, 0)
		at, _ := grid.Project(square().Nodes[i].At)
		if !slices.Equal(z.Nodes, pairs(id, 0)) || !slices.Equal(z.Hull, []api.Point{at}) {
			t.Errorf("with limit 0 the zone of node %d is %v", id, z)
		}
	}
}

// The pieces of the square are 20 to 10 and back, 10 to 40 and back, 10 to 30, 50 to 60 and back.
func TestP50_1Square(t *testing.T) {
	n := newNet(t, square())
	for _, x := range []struct {
		from, limit int
		want        Zone
	}{
		{10, 0, Zone{pairs(10, 0), pts(100, 100), pairs(1, 0, 2, 0, 4, 0)}},
		{10, 319, Zone{pairs(10, 0), pts(100, 100), pairs(1, 319, 2, 319, 4, 319)}},
		{10, 320, Zone{pairs(10, 0, 20, 320, 40, 320), pts(100, 100, 110, 100, 100, 110), pairs(0, 0, 3, 0, 4, 320)}},
		{10, diagonal - 1, Zone{pairs(10, 0, 20, 320, 40, 320), pts(100, 100, 110, 100, 100, 110), pairs(0, diagonal-321, 3, diagonal-321, 4, diagonal-1)}},
		{10, diagonal, Zone{pairs(10, 0, 20, 320, 40, 320, 30, diagonal), pts(100, 100, 110, 100, 110, 110, 100, 110), pairs(0, diagonal-320, 3, diagonal-320)}},
		{10, 639, Zone{pairs(10, 0, 20, 320, 40, 320, 30, diagonal), pts(100, 100, 110, 100, 110, 110, 100, 110), pairs(0, 319, 3, 319)}},
		{10, 640, Zone{pairs(10, 0, 20, 320, 40, 320, 30, diagonal), pts(100, 100, 110, 100, 110, 110, 100, 110), nil}},
		{20, 700, Zone{pairs(20, 0, 10, 320, 40, 640), pts(100, 100, 110, 100, 100, 110), pairs(3, 60, 4, 380)}},
		{20, 500, Zone{pairs(20, 0, 10, 320), pts(100, 100, 110, 100), pairs(1, 180, 2, 180, 4, 180)}},
		{30, 0, Zone{pairs(30, 0), pts(110, 110), nil}},
		{30, 1000, Zone{pairs(30, 0), pts(110, 110), nil}},
		{60, 320, Zone{pairs(60, 0, 50, 320), pts(500, 500, 510, 500), pairs(5, 0)}},
	} {
		if got := zone(t, n, x.from, x.limit); !same(got, x.want) {
			t.Errorf("the zone of node %d with limit %d is %v, not %v", x.from, x.limit, got, x.want)
		}
	}
}

func TestP50_1Errors(t *testing.T) {
	n := newNet(t, square())
	for _, from := range []int{70, 0, 1, -10, math.MinInt, math.MaxInt} {
		for _, limit := range []int{-1, 0, 1000, math.MaxInt} {
			if z, err := Of(n, from, limit); err != api.ErrNone || !same(z, Zone{}) {
				t.Errorf("Of(%d, %d) is %v, %d, not ErrNone", from, limit, z, err)
			}
			if z, err := Of(nil, from, limit); err != api.ErrArg || !same(z, Zone{}) {
				t.Errorf("Of without a net is %v, %d, not ErrArg", z, err)
			}
		}
	}
	if z, err := Of(newNet(t, api.Data{}), 1, 0); err != api.ErrNone || !same(z, Zone{}) {
		t.Errorf("in the net of nothing the zone is %v, %d, not ErrNone", z, err)
	}
}

func TestP50_1ExtremeLimits(t *testing.T) {
	n := newNet(t, square())
	for _, limit := range []int{-1, -1000, math.MinInt} {
		if z := zone(t, n, 10, limit); !same(z, Zone{}) {
			t.Errorf("with the limit %d the zone is %v", limit, z)
		}
	}
	want := zone(t, n, 10, 640)
	for _, limit := range []int{api.MaxWeight, api.Inf - 1, api.Inf, api.Inf + 1, math.MaxInt} {
		if z := zone(t, n, 10, limit); !same(z, want) {
			t.Errorf("with the limit %d the zone is %v, not %v", limit, z, want)
		}
	}
}

func TestP50_1Reports(t *testing.T) {
	n := newNet(t, square())
	for _, x := range []struct {
		l    []api.Report
		want Zone
	}{
		// A closed piece is neither completed nor begun.
		{[]api.Report{always(1, 0)}, Zone{pairs(10, 0), pts(100, 100), pairs(4, 400)}},
		{[]api.Report{always(2, 0)}, Zone{pairs(10, 0, 20, 320, 40, 320), pts(100, 100, 110, 100, 100, 110), pairs(0, 80, 3, 80)}},
		{[]api.Report{always(1, 0), always(2, 0)}, Zone{pairs(10, 0), pts(100, 100), nil}},
		// The weights are the present ones.
		{[]api.Report{always(1, 200)}, Zone{pairs(10, 0), pts(100, 100), pairs(1, 400, 2, 400, 4, 400)}},
		{[]api.Report{always(1, 50), always(2, 1000)}, Zone{pairs(10, 0, 20, 160, 40, 160), pts(100, 100, 110, 100, 100, 110), pairs(4, 400)}},
		{nil, Zone{pairs(10, 0, 20, 320, 40, 320), pts(100, 100, 110, 100, 100, 110), pairs(0, 80, 3, 80, 4, 400)}},
	} {
		report(t, n, 0, x.l...)
		if got := zone(t, n, 10, 400); !same(got, x.want) {
			t.Errorf("with the reports %v the zone is %v, not %v", x.l, got, x.want)
		}
	}
}

// A piece without any weight is completed as soon as it is reached.
func TestP50_1ZeroWeights(t *testing.T) {
	d := square()
	for i := range d.Nodes {
		d.Nodes[i] = node(d.Nodes[i].ID, 100+i, 100)
	}
	n := newNet(t, d)
	report(t, n, 0, always(1, 1), always(2, 1), always(3, 1))
	if !slices.Equal(n.Weights(), make([]int, 7)) {
		t.Fatalf("the weights are %v", n.Weights())
	}
	z := zone(t, n, 20, 0)
	if !same(z, Zone{pairs(10, 0, 20, 0, 30, 0, 40, 0), pts(100, 100, 103, 100), nil}) {
		t.Errorf("the zone is %v", z)
	}
}

// Half lists a piece into which no turn is allowed, since turn restrictions concern the costs of the nodes only.
func TestP50_1TurnsInHalf(t *testing.T) {
	d := square()
	d.Ways = []api.Way{primary(1, 10, 20), primary(2, 20, 30)}
	free := newNet(t, d)
	d.Rels = []api.Rel{restriction(1, "no_left_turn", 1, 20, 2), restriction(2, "no_right_turn", 1, 20, 2)}
	n := newNet(t, d)
	if len(n.Turns()) == 0 {
		t.Fatal("there is no turn restriction")
	}
	want := Zone{pairs(10, 0, 20, 320), pts(100, 100, 110, 100), pairs(1, 80, 2, 80)}
	for _, x := range []*travel.Net{free, n} {
		if z := zone(t, x, 10, 400); !same(z, want) {
			t.Errorf("the zone is %v, not %v", z, want)
		}
	}
	if z := zone(t, free, 10, 640); len(z.Nodes) != 3 || !slices.Equal(z.Half, pairs(3, 0)) {
		t.Errorf("without restrictions the zone is %v", z)
	}
	// Node 30 is not reached, and the forbidden piece to it could be completed.
	if z := zone(t, n, 10, 640); len(z.Nodes) != 2 || len(z.Half) != 0 {
		t.Errorf("with restrictions the zone is %v", z)
	}
}

func pick[T any](r *rand.Rand, l ...T) T { return l[r.Intn(len(l))] }

// town returns a dataset of roads and turn restrictions between them.
func town(r *rand.Rand) api.Data {
	var d api.Data
	nodes, ways := 3+r.Intn(8), 2+r.Intn(7)
	for id := 1; id <= nodes; id++ {
		d.Nodes = append(d.Nodes, node(5*id, 100+r.Intn(6), 100+r.Intn(6)))
	}
	for id := 1; id <= ways; id++ {
		w := api.Way{ID: id, Tags: tagList("highway", pick(r, "motorway", "primary", "residential", "track", "path"), "oneway", pick(r, "yes", "no", "no", "-1"))}
		for range 2 + r.Intn(4) {
			w.Nodes = append(w.Nodes, 5+5*r.Intn(nodes))
		}
		d.Ways = append(d.Ways, w)
	}
	for id := 1; id <= r.Intn(4); id++ {
		from := pick(r, d.Ways...)
		d.Rels = append(d.Rels, restriction(id, pick(r, "no_left_turn", "no_u_turn", "only_straight_on"), from.ID, pick(r, from.Nodes...), 1+r.Intn(ways)))
	}
	return d
}

// someReports returns traffic reports for the ways from 1 to 8.
func someReports(r *rand.Rand) (out []api.Report) {
	for range r.Intn(4) {
		out = append(out, always(1+r.Intn(8), pick(r, 0, 1, 50, 300)))
	}
	return out
}

// scene is a net with its roads and weights as they are computed without it.
type scene struct {
	net     *travel.Net
	roads   api.Roads
	weights []int
}

func someScene(t *testing.T, r *rand.Rand) scene {
	t.Helper()
	d, l := town(r), someReports(r)
	x := scene{net: newNet(t, d)}
	report(t, x.net, 0, l...)
	x.roads, _ = roads.Build(d)
	x.weights, _ = traffic.Weights(x.roads, l, 0)
	return x
}

// costs returns the distances from a node that are at most limit, by node.
func (x scene) costs(from, limit int) map[int]int {
	out := map[int]int{}
	for _, id := range x.roads.Nodes {
		if cost, err := x.net.Dist(from, id); err == api.OK && cost <= limit {
			out[id] = cost
		}
	}
	return out
}

// half returns the pieces that are begun but not completed within limit.
func (x scene) half(costs map[int]int, limit int) (out []api.Reached) {
	for i, p := range x.roads.Pieces {
		cost, ok := costs[x.roads.Nodes[p.From]]
		if left := limit - cost; ok && x.weights[i] != -1 && left < x.weights[i] {
			out = append(out, api.Reached{ID: i, Cost: left})
		}
	}
	return out
}

// hull returns the hull of the points of these nodes.
func (x scene) hull(costs map[int]int) []api.Point {
	var l []api.Point
	for id := range costs {
		v, _ := roads.Vertex(x.roads, id)
		l = append(l, x.roads.At[v])
	}
	return hull.Of(l)
}

func TestP50_1ByDescription(t *testing.T) {
	r := rand.New(rand.NewSource(1))
	halves, corners := 0, map[int]int{}
	for range 120 {
		x := someScene(t, r)
		for range 6 {
			if len(x.roads.Nodes) == 0 {
				break
			}
			from, limit := pick(r, x.roads.Nodes...), r.Intn(400)
			z := zone(t, x.net, from, limit)
			costs := x.costs(from, limit)
			if len(z.Nodes) != len(costs) || !slices.IsSortedFunc(z.Nodes, func(a, b api.Reached) int { return cmp.Or(cmp.Compare(a.Cost, b.Cost), cmp.Compare(a.ID, b.ID)) }) {
				t.Fatalf("the nodes are %v, not %v", z.Nodes, costs)
			}
			for _, y := range z.Nodes {
				if cost, ok := costs[y.ID]; !ok || cost != y.Cost {
					t.Fatalf("the nodes are %v, not %v", z.Nodes, costs)
				}
			}
			if want := x.half(costs, limit); !slices.Equal(z.Half, want) {
				t.Fatalf("from %d with limit %d Half is %v, not %v", from, limit, z.Half, want)
			}
			if want := x.hull(costs); !slices.Equal(z.Hull, want) {
				t.Fatalf("from %d with limit %d Hull is %v, not %v", from, limit, z.Hull, want)
			}
			for range 20 {
				p := api.Point{X: 99 + r.Intn(8), Y: 99 + r.Intn(8)}
				if got, want := Holds(z, p), hull.Holds(z.Hull, p); got != want {
					t.Fatalf("Holds(%v, %v) is %v", z, p, got)
				}
			}
			halves += len(z.Half)
			corners[len(z.Hull)]++
		}
	}
	if halves < 1000 || corners[1] < 20 || corners[2] < 20 || corners[3] < 20 || corners[4] < 20 {
		t.Errorf("there were only %d pieces of Half and %v corners", halves, corners)
	}
}

func TestP50_1Holds(t *testing.T) {
	n := newNet(t, square())
	z := zone(t, n, 10, 320)
	for _, x := range []struct {
		p    api.Point
		want bool
	}{
		{api.Point{X: 100, Y: 100}, true}, {api.Point{X: 110, Y: 100}, true}, {api.Point{X: 100, Y: 110}, true}, {api.Point{X: 105, Y: 105}, true}, {api.Point{X: 101, Y: 101}, true}, {api.Point{X: 105, Y: 100}, true},
		{api.Point{X: 105, Y: 106}, false}, {api.Point{X: 110, Y: 110}, false}, {api.Point{X: 99, Y: 100}, false}, {api.Point{X: 105, Y: 99}, false}, {api.Point{X: 111, Y: 100}, false},
		{api.Point{X: -1, Y: 100}, false}, {api.Point{X: 100, Y: api.Side}, false}, {api.Point{X: math.MinInt, Y: math.MaxInt}, false},
	} {
		if Holds(z, x.p) != x.want {
			t.Errorf("Holds of %v is %v", x.p, !x.want)
		}
	}
	// Only the hull counts, and it must be one.
	p := api.Point{X: 5, Y: 1}
	for _, x := range []struct {
		z    Zone
		want bool
	}{
		{Zone{}, false}, {Zone{Nodes: pairs(10, 0), Half: pairs(1, 1)}, false}, {Zone{Hull: []api.Point{p}}, true}, {Zone{Hull: pts(0, 1, 9, 1)}, true}, {Zone{Hull: pts(9, 1, 0, 1)}, false},
		{Zone{Hull: pts(0, 0, 9, 0, 9, 9)}, true}, {Zone{Hull: pts(0, 0, 9, 9, 9, 0)}, false}, {Zone{Hull: pts(9, 0, 9, 9, 0, 0)}, false}, {Zone{Hull: pts(0, 0, 9, 0, 9, 9, 0, 0)}, false}, {Zone{Hull: pts(0, 0, api.Side, 0, 9, 9)}, false},
	} {
		if Holds(x.z, p) != x.want {
			t.Errorf("Holds of the hull %v is %v", x.z.Hull, !x.want)
		}
	}
}

func TestP50_2LargerLimit(t *testing.T) {
	r := rand.New(rand.NewSource(2))
	more := 0
	for range 100 {
		x := someScene(t, r)
		for _, from := range x.roads.Nodes {
			limit := r.Intn(300) - 5
			small, large := zone(t, x.net, from, limit), zone(t, x.net, from, limit+r.Intn(200))
			for _, y := range small.Nodes {
				if !slices.Contains(large.Nodes, y) {
					t.Fatalf("the larger limit reaches %v, without %v", large.Nodes, y)
				}
			}
			for _, p := range small.Hull {
				if !Holds(large, p) {
					t.Fatalf("the larger hull %v does not contain %v", large.Hull, p)
				}
			}
			more += len(large.Nodes) - len(small.Nodes)
		}
	}
	if more < 300 {
		t.Errorf("the larger limits reach only %d nodes more", more)
	}
}

func TestP50_Aliasing(t *testing.T) {
	n := newNet(t, square())
	want := zone(t, n, 10, 500)
	z := zone(t, n, 10, 500)
	clear(z.Nodes)
	clear(z.Hull)
	clear(z.Half)
	if got := zone(t, n, 10, 500); !same(got, want) {
		t.Errorf("the zone is %v, not %v", got, want)
	}
	corners := pts(0, 0, 9, 0, 9, 9, 1, 1)
	Holds(Zone{Hull: corners[:3]}, api.Point{X: 5, Y: 1})
	if !slices.Equal(corners, pts(0, 0, 9, 0, 9, 9, 1, 1)) {
		t.Error("Holds changes the hull")
	}
}
