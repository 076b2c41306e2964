package travel

import (
	"math"
	"math/rand"
	"reflect"
	"slices"
	"strings"
	"testing"

	"mapmaker/alter"
	"mapmaker/api"
	"mapmaker/contract"
	"mapmaker/custom"
	"mapmaker/dijkstra"
	"mapmaker/grid"
	"mapmaker/order"
	"mapmaker/roads"
	"mapmaker/schedule"
	"mapmaker/traffic"
	"mapmaker/turns"
)

// tagList returns the tags whose keys and values are given in turn, in the order of the keys.
func tagList(l ...string) (out []api.Tag) {
	for i := 0; i < len(l); i += 2 {
		out = append(out, api.Tag{Key: l[i], Val: l[i+1]})
	}
	slices.SortFunc(out, func(a, b api.Tag) int { return strings.Compare(a.Key, b.Key) })
	return out
}

func node(id, x, y int) api.Node {
	c, _ := grid.Center(api.Point{X: x, Y: y})
	return api.Node{ID: id, At: c}
}

func way(id int, tags []api.Tag, nodes ...int) api.Way {
	return api.Way{ID: id, Nodes: nodes, Tags: tags}
}

// primary returns a road on which a grid unit takes the time 32.
func primary(id int, nodes ...int) api.Way {
	return way(id, tagList("highway", "primary"), nodes...)
}

func restriction(id int, value string, from, via, to int) api.Rel {
	part := func(kind, id int, role string) api.Member {
		return api.Member{Ref: api.Ref{Kind: kind, ID: id}, Role: role}
	}
	return api.Rel{ID: id, Members: []api.Member{part(api.KWay, from, "from"), part(api.KNode, via, "via"), part(api.KWay, to, "to")}, Tags: tagList("restriction", value, "type", "restriction")}
}

// street is a two-way road with the nodes 1, 2 and 3, and a node 4 beside it.
func street() api.Data {
	return api.Data{
		Nodes: []api.Node{node(1, 100, 100), node(2, 110, 100), node(3, 120, 100), node(4, 100, 200)},
		Ways:  []api.Way{primary(5, 1, 2, 3)},
	}
}

func newNet(t *testing.T, d api.Data) *Net {
	t.Helper()
	n, err := New(d)
	if n == nil || err != api.OK {
		t.Fatalf("New(%v) returns %d", d, err)
	}
	return n
}

func report(t *testing.T, n *Net, at int, l ...api.Report) int {
	t.Helper()
	count, err := n.Report(l, at)
	if err != api.OK {
		t.Fatalf("Report(%v, %d) returns %d", l, at, err)
	}
	return count
}

// always returns a report that is in effect until the time 100.
func always(way, percent int) api.Report {
	return api.Report{Way: way, Percent: percent, Until: 100}
}

func samePaths(a, b [][]int) bool {
	return slices.EqualFunc(a, b, func(p, q []int) bool { return slices.Equal(p, q) })
}

// plain is a network that is searched without a hierarchy.
type plain struct {
	r api.Roads
	l []api.Turn
	w []int
}

func plainOf(t *testing.T, d api.Data) plain {
	t.Helper()
	r, err := roads.Build(d)
	if err != api.OK {
		t.Fatalf("roads.Build(%v) returns %d", d, err)
	}
	return plain{r, turns.Of(d), roads.Base(r)}
}

// follow returns, for each node, the smallest value at the end of a sequence of at least one piece from the node u in which all turns are allowed, where enter gives the value after a piece from that before it.
func (x plain) follow(u, start int, enter func(piece, before int) (int, bool)) []int {
	values := slices.Repeat([]int{api.Inf}, len(x.r.Pieces))
	for again := true; again; {
		again = false
		for b, p := range x.r.Pieces {
			try := func(before int) {
				if after, ok := enter(b, before); ok && x.w[b] >= 0 && after < values[b] {
					values[b], again = after, true
				}
			}
			if p.From == u {
				try(start)
			}
			for a := range x.r.Pieces {
				if x.r.Pieces[a].To == p.From && values[a] < api.Inf && turns.Allowed(x.r, x.l, a, b) {
					try(values[a])
				}
			}
		}
	}
	out := slices.Repeat([]int{api.Inf}, len(x.r.Nodes))
	for b, p := range x.r.Pieces {
		out[p.To] = min(out[p.To], values[b])
	}
	return out
}

// costs returns the smallest costs from u, which is 0 for u itself.
func (x plain) costs(u int) []int {
	out := x.follow(u, 0, func(piece, before int) (int, bool) { return before + x.w[piece], true })
	out[u] = 0
	return out
}

// arrivals returns the earliest arrivals for a departure at u.
func (x plain) arrivals(u, at int) []int {
	out := x.follow(u, at, x.after)
	out[u] = at
	return out
}

// after returns the time after a piece for those who reach it at a time.
func (x plain) after(piece, time int) (int, bool) {
	enter, ok := schedule.Next(x.r.Pieces[piece].Plan, time)
	return enter + x.w[piece], ok
}

// leads reports whether the pieces lead from u to v with allowed turns, and none of them is closed.
func (x plain) leads(u, v int, pieces []int) bool {
	for i, b := range pieces {
		if b < 0 || b >= len(x.r.Pieces) || x.w[b] < 0 || i == 0 && x.r.Pieces[b].From != u || i > 0 && !turns.Allowed(x.r, x.l, pieces[i-1], b) {
			return false
		}
	}
	if len(pieces) == 0 {
		return u == v
	}
	return x.r.Pieces[pieces[len(pieces)-1]].To == v
}

// metric returns the metric of the network's expanded graph in which every weight is more by that number.
func (x plain) metric(t *testing.T, more int) *custom.Metric {
	t.Helper()
	g := turns.Expand(x.r, x.l)
	w, err := turns.Weights(x.r, x.l, x.w)
	if err != api.OK {
		t.Fatalf("turns.Weights returns %d", err)
	}
	for i := range w {
		if w[i] >= 0 {
			w[i] += more
		}
	}
	h, err := contract.New(g, order.MinDegree(g))
	if err != api.OK {
		t.Fatalf("contract.New returns %d", err)
	}
	m, err := custom.New(h, w)
	if err != api.OK {
		t.Fatalf("custom.New returns %d", err)
	}
	return m
}

// differing returns the number of edges whose weights differ between two metrics of one hierarchy.
func differing(a, b *custom.Metric) (count int) {
	for e := range a.Hier().Edges() {
		if a.Up(e) != b.Up(e) || a.Down(e) != b.Down(e) {
			count++
		}
	}
	return count
}

func pick[T any](r *rand.Rand, l ...T) T { return l[r.Intn(len(l))] }

// someTags returns the tags of a way, most often those of a road.
func someTags(r *rand.Rand) []api.Tag {
	l := []string{"highway", pick(r, "motorway", "primary", "primary", "secondary", "residential", "track")}
	switch r.Intn(12) {
	case 0:
		return tagList("landuse", "x")
	case 1:
		l = []string{"route", "ferry"}
	}
	switch r.Intn(8) {
	case 0:
		l = append(l, "oneway", "yes")
	case 1:
		l = append(l, "oneway", "-1")
	case 2:
		l = append(l, "oneway", "no")
	}
	switch r.Intn(8) {
	case 0:
		l = append(l, "every", pick(r, "60", "7", "1440", "1000"), "first", pick(r, "0", "30", "1400"))
	case 1:
		l = append(l, "closed_from", pick(r, "0", "60", "700"), "closed_to", pick(r, "720", "1440"))
	}
	return tagList(l...)
}

// town returns a dataset of roads and turn restrictions between them.
func town(r *rand.Rand) api.Data {
	var d api.Data
	nodes := 3 + r.Intn(6)
	for id := 1; id <= nodes; id++ {
		d.Nodes = append(d.Nodes, node(id, 100+r.Intn(5), 100+r.Intn(5)))
		if r.Intn(8) == 0 {
			d.Nodes[id-1] = node(id, r.Intn(api.Side), r.Intn(api.Side))
		}
	}
	ways := 2 + r.Intn(7)
	for id := 1; id <= ways; id++ {
		w := way(id, someTags(r))
		for range 2 + r.Intn(4) {
			w.Nodes = append(w.Nodes, 1+r.Intn(nodes))
		}
		d.Ways = append(d.Ways, w)
	}
	for id := 1; id <= r.Intn(6); id++ {
		from := pick(r, d.Ways...)
		d.Rels = append(d.Rels, restriction(id, pick(r, "no_left_turn", "no_u_turn", "only_straight_on", "none"), from.ID, pick(r, from.Nodes...), 1+r.Intn(ways)))
	}
	return d
}

// someReports returns traffic reports for the ways from 1 to 8.
func someReports(r *rand.Rand) (out []api.Report) {
	for range r.Intn(5) {
		since := r.Intn(50)
		out = append(out, api.Report{Way: 1 + r.Intn(8), Percent: pick(r, 0, 0, 1, 1, 1, 50, 100, 250, 999, 1000), Since: since, Until: since + 1 + r.Intn(50)})
	}
	return out
}

func TestP49_1New(t *testing.T) {
	r := rand.New(rand.NewSource(1))
	pieces, restricted := 0, 0
	for range 200 {
		d := town(r)
		n, x := newNet(t, d), plainOf(t, d)
		if got := n.Roads(); !slices.Equal(got.Nodes, x.r.Nodes) || !slices.Equal(got.At, x.r.At) || len(got.Pieces) != len(x.r.Pieces) || len(x.r.Pieces) > 0 && !reflect.DeepEqual(got.Pieces, x.r.Pieces) {
			t.Fatalf("Roads of %v is %v, not %v", d, got, x.r)
		}
		if got := n.Turns(); !slices.Equal(got, x.l) {
			t.Fatalf("Turns of %v is %v, not %v", d, got, x.l)
		}
		if got := n.Weights(); !slices.Equal(got, x.w) {
			t.Fatalf("Weights of %v is %v, not %v", d, got, x.w)
		}
		m := x.metric(t, 0)
		if !slices.Equal(n.Hier().Order(), m.Hier().Order()) || !reflect.DeepEqual(n.Hier().Graph(), m.Hier().Graph()) || !slices.Equal(n.Metric.Weights(), m.Weights()) || differing(n.Metric, m) != 0 {
			t.Fatalf("the metric of %v differs", d)
		}
		pieces += len(x.r.Pieces)
		restricted += len(x.l)
	}
	if pieces < 2000 || restricted < 200 {
		t.Errorf("there were only %d pieces and %d turns", pieces, restricted)
	}
	n := newNet(t, api.Data{})
	if r := n.Roads(); len(r.Nodes)+len(r.At)+len(r.Pieces) != 0 || len(n.Turns()) != 0 || len(n.Weights()) != 0 {
		t.Error("the net of nothing has something")
	}
	if count := report(t, n, 0, always(1, 0)); count != 0 {
		t.Errorf("in the net of nothing %d edges change", count)
	}
}

func TestP49_1Errors(t *testing.T) {
	lost := street()
	lost.Nodes = lost.Nodes[1:]
	twice := street()
	twice.Ways = append(twice.Ways, twice.Ways[0])
	for _, x := range []struct {
		d    api.Data
		want api.Errno
	}{
		{lost, api.ErrRef}, {twice, api.ErrOrder}, {api.Data{Nodes: []api.Node{{ID: 0}}}, api.ErrRange}, {api.Data{Nodes: []api.Node{{ID: 1, Tags: tagList("", "")}}}, api.ErrTag},
		{api.Data{Nodes: []api.Node{{ID: 1, At: api.Coord{Lon: api.MaxLon + 1}}}}, api.ErrCoord}, {api.Data{Ways: []api.Way{{ID: 1}}}, api.ErrShort}, {api.Data{Rels: make([]api.Rel, api.MaxObject+1)}, api.ErrLong},
	} {
		if n, err := New(x.d); n != nil || err != x.want {
			t.Errorf("New(%v) returns %v, %d, not %d", x.d, n, err, x.want)
		}
	}
}

// At a node where 2100 roads meet there are more turns than a graph may have arcs.
func TestP49_1TooManyTurns(t *testing.T) {
	d := api.Data{Nodes: []api.Node{node(1, 1000, 1000)}}
	for id := 2; id <= 2101; id++ {
		d.Nodes = append(d.Nodes, node(id, id, 0))
		d.Ways = append(d.Ways, primary(id, 1, id))
	}
	if n, err := New(d); n != nil || err != api.ErrLong {
		t.Errorf("New returns %v, %d, not ErrLong", n, err)
	}
}

func TestP49_1ReportErrors(t *testing.T) {
	n := newNet(t, street())
	report(t, n, 0, always(5, 300))
	good, want := always(5, 0), n.Weights()
	for _, x := range []struct {
		l    []api.Report
		at   int
		want api.Errno
	}{
		{make([]api.Report, api.MaxObject+1), -1, api.ErrLong},
		{[]api.Report{good, {Way: 0, Until: 1}}, -1, api.ErrRange}, {[]api.Report{good, {Way: 5, Percent: 1001, Until: 1}}, 0, api.ErrRange}, {[]api.Report{{Way: 5, Percent: -1, Until: 1}, good}, 0, api.ErrRange},
		{[]api.Report{good, {Way: 5}}, 0, api.ErrTime}, {[]api.Report{{Way: 5, Since: -1, Until: 7}}, 0, api.ErrTime}, {[]api.Report{{Way: 5, Until: 1}, {Way: -5}}, math.MaxInt, api.ErrRange},
		{[]api.Report{good}, -1, api.ErrTime}, {nil, api.MaxWeight + 1, api.ErrTime}, {nil, math.MinInt, api.ErrTime}, {nil, math.MaxInt, api.ErrTime},
	} {
		if count, err := n.Report(x.l, x.at); count != 0 || err != x.want {
			t.Errorf("Report(%v, %d) returns %d, %d, not %d", x.l, x.at, count, err, x.want)
		}
		if got := n.Weights(); !slices.Equal(got, want) {
			t.Fatalf("after a failed call the weights are %v, not %v", got, want)
		}
	}
	if cost, err := n.Dist(1, 3); cost != 3*640 || err != api.OK {
		t.Errorf("after failed calls the distance is %d, %d", cost, err)
	}
}

func TestP49_1Reports(t *testing.T) {
	n := newNet(t, street())
	// The pieces, in turn there and back, take 320 each.
	for _, x := range []struct {
		at   int
		l    []api.Report
		want int
	}{
		{0, nil, 320}, {10, []api.Report{{Way: 5, Percent: 250, Since: 10, Until: 20}}, 800}, {20, []api.Report{{Way: 5, Percent: 250, Since: 10, Until: 20}}, 320}, {9, []api.Report{{Way: 5, Percent: 250, Since: 10, Until: 20}}, 320},
		{5, []api.Report{always(5, 0)}, -1}, {5, []api.Report{always(6, 0)}, 320}, {5, []api.Report{always(5, 0), always(5, 50)}, 160}, {5, []api.Report{always(5, 50), always(5, 0)}, -1}, {api.MaxWeight, []api.Report{always(5, 0)}, 320}, {99, []api.Report{always(5, 100)}, 320},
	} {
		report(t, n, x.at, x.l...)
		if got := n.Weights(); !slices.Equal(got, slices.Repeat([]int{x.want}, 4)) {
			t.Errorf("with the reports %v at %d the weights are %v", x.l, x.at, got)
		}
	}
}

// Reports set what traffic's Weights says, whatever was set before, and the metric is then the one of New.
func TestP49_1ReportByDescription(t *testing.T) {
	r := rand.New(rand.NewSource(2))
	changes, none := 0, 0
	for range 60 {
		d := town(r)
		n, x := newNet(t, d), plainOf(t, d)
		before := x.metric(t, 0)
		for range 8 {
			l, at := someReports(r), r.Intn(70)
			x.w, _ = traffic.Weights(x.r, l, at)
			after := x.metric(t, 0)
			want := differing(before, after)
			if got := report(t, n, at, l...); got != want {
				t.Fatalf("Report(%v, %d) in %v returns %d, not %d", l, at, d, got, want)
			}
			if differing(n.Metric, after) != 0 || !slices.Equal(n.Metric.Weights(), after.Weights()) || !slices.Equal(n.Weights(), x.w) {
				t.Fatalf("after Report(%v, %d) the metric of %v is not that of the weights %v", l, at, d, x.w)
			}
			if want == 0 {
				none++
			}
			changes += want
			before = after
		}
	}
	if changes < 5000 || none < 50 {
		t.Errorf("%d edges changed, %d times none did", changes, none)
	}
}

func TestP49_1Copy(t *testing.T) {
	n := newNet(t, street())
	report(t, n, 0, always(5, 50))
	other := n.Copy()
	if !slices.Equal(other.Weights(), n.Weights()) || !reflect.DeepEqual(other.Roads(), n.Roads()) {
		t.Fatal("the copy differs")
	}
	report(t, n, 0, always(5, 0))
	if cost, err := other.Dist(1, 3); cost != 320 || err != api.OK {
		t.Errorf("the distance in the copy is %d, %d", cost, err)
	}
	report(t, other, 0, always(5, 200))
	if cost, err := n.Dist(1, 3); cost != 0 || err != api.ErrPath {
		t.Errorf("the distance in the original is %d, %d", cost, err)
	}
	if cost, err := other.Dist(1, 3); cost != 1280 || err != api.OK {
		t.Errorf("the distance in the copy is %d, %d", cost, err)
	}
}

func TestP49_2Examples(t *testing.T) {
	n := newNet(t, street())
	if p, cost, err := n.Route(1, 3); !slices.Equal(p, []int{0, 2}) || cost != 640 || err != api.OK {
		t.Errorf("the route is %v, %d, %d", p, cost, err)
	}
	if p, cost, err := n.Route(3, 1); !slices.Equal(p, []int{3, 1}) || cost != 640 || err != api.OK {
		t.Errorf("the route back is %v, %d, %d", p, cost, err)
	}
	report(t, n, 0, always(5, 0))
	if p, cost, err := n.Route(1, 3); len(p) != 0 || cost != 0 || err != api.ErrPath {
		t.Errorf("the route on a closed road is %v, %d, %d", p, cost, err)
	}
}

// island is the street with another one that is not connected with it, and a one-way road from node 1 to it.
func island() api.Data {
	d := street()
	d.Nodes = append(d.Nodes, node(6, 300, 300), node(7, 310, 300), node(8, 400, 400), node(9, 410, 400))
	d.Ways = append(d.Ways, primary(6, 6, 7), way(7, tagList("highway", "primary", "oneway", "yes"), 1, 6), way(8, tagList("landuse", "x"), 8, 9))
	return d
}

func TestP49_2Errors(t *testing.T) {
	n := newNet(t, island())
	bad := []int{-1, api.MaxWeight + 1, math.MinInt, math.MaxInt}
	for _, x := range []struct {
		from, to int
		want     api.Errno
	}{
		{4, 1, api.ErrNone}, {1, 4, api.ErrNone}, {4, 4, api.ErrNone}, {8, 9, api.ErrNone}, {5, 1, api.ErrNone}, {0, 1, api.ErrNone}, {1, 0, api.ErrNone}, {-1, -1, api.ErrNone}, {math.MinInt, 1, api.ErrNone}, {3, math.MaxInt, api.ErrNone}, {99, 98, api.ErrNone},
		{6, 1, api.ErrPath}, {7, 3, api.ErrPath}, {1, 1, api.OK}, {7, 7, api.OK}, {3, 7, api.OK},
	} {
		p, cost, err := n.Route(x.from, x.to)
		if err != x.want || err != api.OK && (len(p) != 0 || cost != 0) {
			t.Errorf("Route(%d, %d) is %v, %d, %d, not %d", x.from, x.to, p, cost, err, x.want)
		}
		if c, err := n.Dist(x.from, x.to); err != x.want || c != cost {
			t.Errorf("Dist(%d, %d) is %d, %d, not %d, %d", x.from, x.to, c, err, cost, x.want)
		}
		for _, at := range []int{0, 7, api.MaxWeight} {
			q, arrival, err := n.Depart(x.from, x.to, at)
			if err != x.want || err != api.OK && (len(q) != 0 || arrival != 0) || err == api.OK && (arrival != at+cost || len(q) != len(p)) {
				t.Errorf("Depart(%d, %d, %d) is %v, %d, %d, not %d", x.from, x.to, at, q, arrival, err, x.want)
			}
		}
		want := api.ErrTime
		if x.want == api.ErrNone {
			want = x.want
		}
		for _, at := range bad {
			if q, arrival, err := n.Depart(x.from, x.to, at); err != want || len(q) != 0 || arrival != 0 {
				t.Errorf("Depart(%d, %d, %d) is %v, %d, %d, not %d", x.from, x.to, at, q, arrival, err, want)
			}
		}
	}
}

// Who is where they want to be does not drive around the block, however short that is.
func TestP49_2Equal(t *testing.T) {
	d := street()
	d.Ways = append(d.Ways, way(6, tagList("highway", "motorway"), 3, 4, 1))
	n := newNet(t, d)
	for _, percent := range []int{100, 0, 1} {
		report(t, n, 0, always(5, percent), always(6, percent))
		for _, id := range []int{1, 2, 3, 4} {
			if p, cost, err := n.Route(id, id); len(p) != 0 || cost != 0 || err != api.OK {
				t.Errorf("Route(%d, %d) is %v, %d, %d", id, id, p, cost, err)
			}
			if cost, err := n.Dist(id, id); cost != 0 || err != api.OK {
				t.Errorf("Dist(%d, %d) is %d, %d", id, id, cost, err)
			}
			if p, arrival, err := n.Depart(id, id, 77); len(p) != 0 || arrival != 77 || err != api.OK {
				t.Errorf("Depart(%d, %d) is %v, %d, %d", id, id, p, arrival, err)
			}
			if l, err := n.Others(id, id, alter.Options{Most: 3}); len(l) != 1 || len(l[0]) != 0 || err != api.OK {
				t.Errorf("Others(%d, %d) is %v, %d", id, id, l, err)
			}
			l, err := n.Reach(id, 0)
			if i := slices.Index(l, api.Reached{ID: id}); i < 0 || err != api.OK {
				t.Errorf("Reach(%d, 0) is %v, %d", id, l, err)
			}
		}
	}
}

// checkRoutes compares the routes from all nodes to all nodes with the searches in x.
func checkRoutes(t *testing.T, n *Net, x plain) (found, missing int) {
	t.Helper()
	for u, from := range x.r.Nodes {
		costs := x.costs(u)
		for v, to := range x.r.Nodes {
			p, cost, err := n.Route(from, to)
			c, errDist := n.Dist(from, to)
			if c != cost || errDist != err {
				t.Fatalf("Dist(%d, %d) is %d, %d, and Route %d, %d", from, to, c, errDist, cost, err)
			}
			if costs[v] == api.Inf {
				if len(p) != 0 || cost != 0 || err != api.ErrPath {
					t.Fatalf("Route(%d, %d) in %v is %v, %d, %d, not ErrPath", from, to, x, p, cost, err)
				}
				missing++
				continue
			}
			sum := 0
			for _, a := range p {
				sum += x.w[a]
			}
			if err != api.OK || cost != costs[v] || sum != cost || !x.leads(u, v, p) {
				t.Fatalf("Route(%d, %d) in %v is %v, %d, %d, not one of the cost %d", from, to, x, p, cost, err, costs[v])
			}
			found++
		}
	}
	return found, missing
}

func TestP49_2Routes(t *testing.T) {
	r := rand.New(rand.NewSource(3))
	found, missing := 0, 0
	for range 120 {
		d := town(r)
		n, x := newNet(t, d), plainOf(t, d)
		for range 3 {
			a, b := checkRoutes(t, n, x)
			found, missing = found+a, missing+b
			l, at := someReports(r), r.Intn(70)
			report(t, n, at, l...)
			x.w, _ = traffic.Weights(x.r, l, at)
		}
	}
	if min(found, missing) < 500 {
		t.Errorf("%d routes were found, %d were not", found, missing)
	}
}

// Example 6 of DOC.md.
func TestP49_2Ferry(t *testing.T) {
	d := street()
	d.Nodes = append(d.Nodes, node(6, 130, 100))
	d.Ways = append(d.Ways, way(6, tagList("route", "ferry", "every", "60", "first", "30"), 3, 6), way(7, tagList("highway", "primary", "closed_from", "60", "closed_to", "120"), 1, 4))
	n := newNet(t, d)
	ferry, _ := n.Dist(3, 6)
	for _, x := range []struct{ at, want int }{{31, 90 + ferry}, {30, 30 + ferry}, {90, 90 + ferry}, {0, 30 + ferry}, {1440, 1470 + ferry}, {1439, 1470 + ferry}} {
		if p, arrival, err := n.Depart(3, 6, x.at); arrival != x.want || len(p) != 1 || err != api.OK {
			t.Errorf("the ferry at %d is %v, %d, %d, not %d", x.at, p, arrival, err, x.want)
		}
	}
	road, _ := n.Dist(1, 4)
	for _, x := range []struct{ at, want int }{{59, 59 + road}, {60, 120 + road}, {119, 120 + road}, {1499, 1499 + road}, {1500, 1560 + road}} {
		if p, arrival, err := n.Depart(1, 4, x.at); arrival != x.want || len(p) != 1 || err != api.OK {
			t.Errorf("the road at %d is %v, %d, %d, not %d", x.at, p, arrival, err, x.want)
		}
	}
	// A road that is never open is no way, although it is not closed.
	d.Ways[2].Tags = tagList("highway", "primary", "closed_from", "0", "closed_to", "1440")
	d.Ways = append(d.Ways[:1], d.Ways[2])
	n = newNet(t, d)
	if p, arrival, err := n.Depart(1, 4, 5); len(p) != 0 || arrival != 0 || err != api.ErrPath {
		t.Errorf("on a road that is never open Depart is %v, %d, %d", p, arrival, err)
	}
	if _, cost, err := n.Route(1, 4); cost != road || err != api.OK {
		t.Errorf("schedules matter for Route: %d, %d", cost, err)
	}
}

func TestP49_2Depart(t *testing.T) {
	r := rand.New(rand.NewSource(4))
	found, missing, waits := 0, 0, 0
	for range 150 {
		d := town(r)
		n, x := newNet(t, d), plainOf(t, d)
		l := someReports(r)
		report(t, n, 20, l...)
		x.w, _ = traffic.Weights(x.r, l, 20)
		for u, from := range x.r.Nodes {
			at := pick(r, 0, 59, 700, 1439, r.Intn(5000), api.MaxWeight)
			arrivals, costs := x.arrivals(u, at), x.costs(u)
			for v, to := range x.r.Nodes {
				p, arrival, err := n.Depart(from, to, at)
				if arrivals[v] == api.Inf {
					if len(p) != 0 || arrival != 0 || err != api.ErrPath {
						t.Fatalf("Depart(%d, %d, %d) in %v is %v, %d, %d, not ErrPath", from, to, at, x, p, arrival, err)
					}
					missing++
					continue
				}
				time := at
				for _, a := range p {
					time, _ = x.after(a, time)
				}
				if err != api.OK || arrival != arrivals[v] || time != arrival || !x.leads(u, v, p) {
					t.Fatalf("Depart(%d, %d, %d) in %v is %v, %d, %d, not one that arrives at %d", from, to, at, x, p, arrival, err, arrivals[v])
				}
				found++
				if arrival != at+costs[v] {
					waits++
				}
			}
		}
	}
	if min(found, missing, waits) < 300 {
		t.Errorf("%d routes were found, %d were not, %d had to wait", found, missing, waits)
	}
}

func TestP49_3OthersErrors(t *testing.T) {
	n := newNet(t, island())
	good := alter.Options{Most: 3, Stretch: 100, Share: 50}
	for _, x := range []struct {
		from, to int
		o        alter.Options
		want     api.Errno
	}{
		{1, 3, alter.Options{}, api.ErrRange}, {1, 3, alter.Options{Most: 9}, api.ErrRange}, {1, 3, alter.Options{Most: 1, Stretch: 201}, api.ErrRange}, {1, 3, alter.Options{Most: 1, Share: -1}, api.ErrRange},
		{4, 99, alter.Options{}, api.ErrRange}, {1, 1, alter.Options{}, api.ErrRange}, {6, 1, alter.Options{Most: math.MinInt}, api.ErrRange},
		{4, 1, good, api.ErrNone}, {1, 4, good, api.ErrNone}, {4, 4, good, api.ErrNone}, {math.MinInt, math.MaxInt, good, api.ErrNone}, {6, 1, good, api.ErrPath}, {7, 3, good, api.ErrPath}, {1, 3, good, api.OK}, {1, 1, good, api.OK},
	} {
		l, err := n.Others(x.from, x.to, x.o)
		if err != x.want || (len(l) > 0) != (x.want == api.OK) {
			t.Errorf("Others(%d, %d, %v) is %v, %d, not %d", x.from, x.to, x.o, l, err, x.want)
		}
	}
}

func TestP49_3Others(t *testing.T) {
	d := api.Data{Nodes: []api.Node{node(1, 100, 100), node(2, 110, 90), node(3, 110, 115), node(4, 120, 100)}}
	d.Ways = []api.Way{primary(1, 1, 2, 4), primary(2, 1, 3, 4)}
	n := newNet(t, d)
	if l, err := n.Others(1, 4, alter.Options{Most: 8, Stretch: 100}); err != api.OK || !samePaths(l, [][]int{{0, 2}, {4, 6}}) {
		t.Errorf("the routes are %v, %d", l, err)
	}
	if l, err := n.Others(1, 4, alter.Options{Most: 1, Stretch: 100}); err != api.OK || !samePaths(l, [][]int{{0, 2}}) {
		t.Errorf("the only route is %v, %d", l, err)
	}
	if l, err := n.Others(1, 4, alter.Options{Most: 8, Stretch: 10}); err != api.OK || !samePaths(l, [][]int{{0, 2}}) {
		t.Errorf("the route that is short is %v, %d", l, err)
	}
	report(t, n, 0, always(1, 200))
	if l, err := n.Others(1, 4, alter.Options{Most: 8, Stretch: 100}); err != api.OK || !samePaths(l, [][]int{{4, 6}, {0, 2}}) {
		t.Errorf("with a slow road the routes are %v, %d", l, err)
	}
	report(t, n, 0, always(1, 0))
	if l, err := n.Others(1, 4, alter.Options{Most: 8, Stretch: 100}); err != api.OK || !samePaths(l, [][]int{{4, 6}}) {
		t.Errorf("with a closed road the routes are %v, %d", l, err)
	}
	before := n.Weights()
	n.Others(1, 4, alter.Options{Most: 8, Stretch: 100})
	if !slices.Equal(n.Weights(), before) {
		t.Errorf("Others changes the weights to %v", n.Weights())
	}
}

func TestP49_3OthersByDescription(t *testing.T) {
	r := rand.New(rand.NewSource(5))
	several, zero := 0, 0
	for range 150 {
		d := town(r)
		n, x := newNet(t, d), plainOf(t, d)
		l := someReports(r)
		report(t, n, 20, l...)
		x.w, _ = traffic.Weights(x.r, l, 20)
		m := x.metric(t, 1)
		if slices.Contains(x.w, 0) {
			zero++
		}
		for range 8 {
			if len(x.r.Nodes) == 0 {
				break
			}
			u, v := r.Intn(len(x.r.Nodes)), r.Intn(len(x.r.Nodes))
			o := alter.Options{Most: 1 + r.Intn(8), Stretch: r.Intn(201), Share: r.Intn(101)}
			paths, want := alter.Routes(m, turns.Source(x.r, u), turns.Target(x.r, v), o)
			var routes [][]int
			for _, p := range paths {
				pieces, ok := turns.Pieces(x.r, p, x.l)
				if !ok || !x.leads(u, v, pieces) {
					t.Fatalf("the path %v in %v is no route", p, x)
				}
				routes = append(routes, pieces)
			}
			if u == v {
				routes, want = [][]int{nil}, api.OK
			}
			got, err := n.Others(x.r.Nodes[u], x.r.Nodes[v], o)
			if err != want || !samePaths(got, routes) {
				t.Fatalf("Others(%d, %d, %v) in %v is %v, %d, not %v, %d", x.r.Nodes[u], x.r.Nodes[v], o, x, got, err, routes, want)
			}
			if len(got) > 1 {
				several++
			}
		}
	}
	if several < 200 || zero < 5 {
		t.Errorf("%d times there were several routes, and %d times a weight 0", several, zero)
	}
}

func TestP49_3Reach(t *testing.T) {
	n := newNet(t, island())
	bridge, _ := n.Dist(1, 6)
	all := []api.Reached{{ID: 1}, {ID: 2, Cost: 320}, {ID: 3, Cost: 640}, {ID: 6, Cost: bridge}, {ID: 7, Cost: bridge + 320}}
	for _, x := range []struct {
		from, limit int
		want        []api.Reached
	}{
		{1, 320, all[:2]}, {1, 319, all[:1]}, {1, 0, all[:1]}, {1, -1, nil}, {1, math.MinInt, nil}, {1, 640, all[:3]}, {1, bridge + 319, all[:4]}, {1, bridge + 320, all}, {1, api.Inf, all}, {1, math.MaxInt, all},
		{2, 320, []api.Reached{{ID: 2}, {ID: 1, Cost: 320}, {ID: 3, Cost: 320}}}, {7, math.MaxInt, []api.Reached{{ID: 7}, {ID: 6, Cost: 320}}},
	} {
		if got, err := n.Reach(x.from, x.limit); err != api.OK || !slices.Equal(got, x.want) {
			t.Errorf("Reach(%d, %d) is %v, %d, not %v", x.from, x.limit, got, err, x.want)
		}
	}
	for _, from := range []int{4, 5, 8, 0, -1, 99, math.MinInt, math.MaxInt} {
		for _, limit := range []int{-1, 0, math.MaxInt} {
			if got, err := n.Reach(from, limit); err != api.ErrNone || len(got) != 0 {
				t.Errorf("Reach(%d, %d) is %v, %d", from, limit, got, err)
			}
		}
	}
	// Nodes with equal costs are in the order of their numbers, also if these are 0.
	d := api.Data{Nodes: []api.Node{node(1, 100, 100), node(2, 101, 100), node(3, 102, 100)}, Ways: []api.Way{way(5, tagList("highway", "motorway", "oneway", "no"), 1, 2, 3)}}
	n = newNet(t, d)
	report(t, n, 0, always(5, 1))
	for _, from := range []int{1, 2, 3} {
		if got, err := n.Reach(from, 0); err != api.OK || !slices.Equal(got, []api.Reached{{ID: 1}, {ID: 2}, {ID: 3}}) {
			t.Errorf("Reach(%d, 0) on roads that take no time is %v, %d", from, got, err)
		}
	}
}

func TestP49_3ReachByDescription(t *testing.T) {
	r := rand.New(rand.NewSource(6))
	total := 0
	for range 100 {
		d := town(r)
		n, x := newNet(t, d), plainOf(t, d)
		l := someReports(r)
		report(t, n, 20, l...)
		x.w, _ = traffic.Weights(x.r, l, 20)
		for u, from := range x.r.Nodes {
			limit := pick(r, r.Intn(1000), r.Intn(10000), r.Intn(1000000), math.MaxInt, -r.Intn(2))
			var want []api.Reached
			for v, cost := range x.costs(u) {
				if cost < api.Inf && cost <= limit {
					want = append(want, api.Reached{ID: x.r.Nodes[v], Cost: cost})
				}
			}
			slices.SortFunc(want, func(a, b api.Reached) int {
				if a.Cost != b.Cost {
					return a.Cost - b.Cost
				}
				return a.ID - b.ID
			})
			got, err := n.Reach(from, limit)
			if err != api.OK || !slices.Equal(got, want) {
				t.Fatalf("Reach(%d, %d) in %v is %v, %d, not %v", from, limit, x, got, err, want)
			}
			total += len(got)
		}
	}
	if total < 1000 {
		t.Errorf("only %d nodes were reached", total)
	}
}

func TestP49_3Nil(t *testing.T) {
	var n *Net
	if r := n.Roads(); len(r.Nodes)+len(r.At)+len(r.Pieces) != 0 || n.Turns() != nil || n.Weights() != nil || n.Copy() != nil {
		t.Error("the nil net has something")
	}
	if count, err := n.Report([]api.Report{{}}, -1); count != 0 || err != api.ErrArg {
		t.Errorf("Report returns %d, %d", count, err)
	}
	if cost, err := n.Dist(1, 1); cost != 0 || err != api.ErrArg {
		t.Errorf("Dist returns %d, %d", cost, err)
	}
	if p, cost, err := n.Route(1, 1); len(p) != 0 || cost != 0 || err != api.ErrArg {
		t.Errorf("Route returns %v, %d, %d", p, cost, err)
	}
	if p, arrival, err := n.Depart(1, 1, -1); len(p) != 0 || arrival != 0 || err != api.ErrArg {
		t.Errorf("Depart returns %v, %d, %d", p, arrival, err)
	}
	for _, o := range []alter.Options{{}, {Most: 1}} {
		if l, err := n.Others(1, 1, o); len(l) != 0 || err != api.ErrArg {
			t.Errorf("Others returns %v, %d", l, err)
		}
	}
	if l, err := n.Reach(1, 5); len(l) != 0 || err != api.ErrArg {
		t.Errorf("Reach returns %v, %d", l, err)
	}
}

// P6 of DOC.md: the distances are those of Dijkstra's algorithm, after any reports, which replace earlier ones.
func TestP49_4Dijkstra(t *testing.T) {
	r := rand.New(rand.NewSource(7))
	pairs := 0
	for range 60 {
		d := town(r)
		n, x := newNet(t, d), plainOf(t, d)
		g := turns.Expand(x.r, x.l)
		for range 5 {
			for range 1 + r.Intn(3) {
				l, at := someReports(r), r.Intn(70)
				report(t, n, at, l...)
				x.w, _ = traffic.Weights(x.r, l, at)
			}
			fresh := newNet(t, d)
			if !slices.Equal(n.Weights(), x.w) {
				t.Fatalf("the weights are %v, not those of the last reports, %v", n.Weights(), x.w)
			}
			report(t, n, 0)
			if !slices.Equal(n.Weights(), fresh.Weights()) || differing(n.Metric, fresh.Metric) != 0 {
				t.Fatal("without reports the weights are not the first ones")
			}
			report(t, n, 0, always(1, 0))
			report(t, fresh, 0, always(1, 0))
			if differing(n.Metric, fresh.Metric) != 0 {
				t.Fatal("the metric depends on earlier reports")
			}
			pieces := n.Weights()
			w, _ := turns.Weights(x.r, x.l, pieces)
			for u, from := range x.r.Nodes {
				dist, _ := dijkstra.From(g, w, turns.Source(x.r, u))
				for v, to := range x.r.Nodes {
					want := dist[turns.Target(x.r, v)]
					if u == v {
						want = 0
					}
					got, err := n.Dist(from, to)
					if want < api.Inf && (got != want || err != api.OK) || want == api.Inf && (got != 0 || err != api.ErrPath) {
						t.Fatalf("Dist(%d, %d) in %v is %d, %d, not %d", from, to, x, got, err, want)
					}
					pairs++
				}
			}
		}
	}
	if pairs < 5000 {
		t.Errorf("only %d pairs were compared", pairs)
	}
}

// crossing has ways from node 2 to all other nodes, way 3 to node 3 and so on, and a detour from node 4 to node 3.
func crossing() api.Data {
	return api.Data{
		Nodes: []api.Node{node(1, 100, 100), node(2, 110, 100), node(3, 120, 100), node(4, 110, 110)},
		Ways:  []api.Way{primary(1, 1, 2), primary(3, 2, 3), primary(4, 2, 4), primary(5, 4, 3)},
	}
}

// Example 4 of DOC.md: with a turn restriction a route makes a detour, or there is none.
func TestP49_4Restrictions(t *testing.T) {
	route := func(d api.Data) []int {
		p, _, _ := newNet(t, d).Route(1, 3)
		return p
	}
	d := crossing()
	if p := route(d); !slices.Equal(p, []int{0, 2}) {
		t.Errorf("the route is %v", p)
	}
	d.Rels = []api.Rel{restriction(7, "no_left_turn", 1, 2, 3)}
	if p := route(d); !slices.Equal(p, []int{0, 4, 6}) {
		t.Errorf("the detour is %v", p)
	}
	d.Rels = []api.Rel{restriction(7, "only_right_turn", 1, 2, 4)}
	if p := route(d); !slices.Equal(p, []int{0, 4, 6}) {
		t.Errorf("the detour is %v", p)
	}
	d.Rels = []api.Rel{restriction(7, "no_left_turn", 1, 2, 3), restriction(8, "no_left_turn", 1, 2, 4)}
	n := newNet(t, d)
	if p, cost, err := n.Route(1, 3); len(p) != 0 || cost != 0 || err != api.ErrPath {
		t.Errorf("with both turns forbidden the route is %v, %d, %d", p, cost, err)
	}
	// Forbidden turns do not matter for routes that begin or end at the node.
	if p, _, _ := n.Route(2, 3); !slices.Equal(p, []int{2}) {
		t.Errorf("the route from the crossing is %v", p)
	}
	d.Rels = nil
	d.Ways[1].Tags = tagList("highway", "primary", "oneway", "-1")
	if p := route(d); !slices.Equal(p, []int{0, 3, 5}) {
		t.Errorf("the route beside a one-way street is %v", p)
	}
}

// Example 5 of DOC.md: a closed road is avoided until the report ends.
func TestP49_4Closure(t *testing.T) {
	n := newNet(t, crossing())
	closure := api.Report{Way: 3, Percent: 0, Since: 10, Until: 20}
	for _, x := range []struct {
		at   int
		want []int
	}{{9, []int{0, 2}}, {10, []int{0, 4, 6}}, {19, []int{0, 4, 6}}, {20, []int{0, 2}}} {
		report(t, n, x.at, closure)
		if p, _, err := n.Route(1, 3); !slices.Equal(p, x.want) || err != api.OK {
			t.Errorf("at %d the route is %v, %d, not %v", x.at, p, err, x.want)
		}
	}
}

func TestP49_Aliasing(t *testing.T) {
	give := func() api.Data {
		d := crossing()
		d.Ways[1].Tags = tagList("highway", "primary", "closed_from", "60", "closed_to", "120")
		d.Rels = []api.Rel{restriction(7, "no_left_turn", 1, 2, 3)}
		return d
	}
	d, fresh := give(), newNet(t, give())
	n := newNet(t, d)
	if !reflect.DeepEqual(d, give()) {
		t.Fatal("New changes the dataset")
	}
	for _, w := range d.Ways {
		clear(w.Nodes)
		clear(w.Tags)
	}
	clear(d.Nodes)
	clear(d.Ways)
	clear(d.Rels[0].Members)
	l := []api.Report{always(3, 50), always(4, 0)}
	report(t, n, 0, l[:1]...)
	report(t, fresh, 0, always(3, 50))
	if l[1] != always(4, 0) {
		t.Error("Report changes the spare capacity of its argument")
	}
	clear(l)
	same := func(what string) {
		t.Helper()
		p, arrival, _ := n.Depart(1, 3, 61)
		q, want, _ := fresh.Depart(1, 3, 61)
		if !reflect.DeepEqual(n.Roads(), fresh.Roads()) || !slices.Equal(n.Turns(), fresh.Turns()) || !slices.Equal(n.Weights(), fresh.Weights()) || !slices.Equal(p, q) || arrival != want || differing(n.Metric, fresh.Metric) != 0 {
			t.Errorf("the net shares memory with %s", what)
		}
	}
	same("arguments")
	r := n.Roads()
	for _, p := range r.Pieces {
		clear(p.Plan.Closed)
	}
	clear(r.Pieces)
	clear(r.Nodes)
	clear(r.At)
	clear(n.Turns())
	clear(n.Weights())
	same("results")
}
