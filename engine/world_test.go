package engine

import (
	"fmt"
	"math/rand"
	"slices"
	"strings"
	"testing"

	"mapmaker/api"
	"mapmaker/areas"
	"mapmaker/change"
	"mapmaker/codec"
	"mapmaker/data"
	"mapmaker/dijkstra"
	"mapmaker/geocode"
	"mapmaker/grid"
	"mapmaker/locate"
	"mapmaker/roads"
	"mapmaker/tileset"
	"mapmaker/turns"
	"mapmaker/words"
)

// tagList returns the tags whose keys and values are given in turn, in the order of the keys.
func tagList(l ...string) (out []api.Tag) {
	for i := 0; i < len(l); i += 2 {
		out = append(out, api.Tag{Key: l[i], Val: l[i+1]})
	}
	slices.SortFunc(out, func(a, b api.Tag) int { return strings.Compare(a.Key, b.Key) })
	return out
}

func node(id, x, y int, tags ...string) api.Node {
	c, _ := grid.Center(api.Point{X: x, Y: y})
	return api.Node{ID: id, At: c, Tags: tagList(tags...)}
}

func way(id int, tags []api.Tag, nodes ...int) api.Way {
	return api.Way{ID: id, Nodes: nodes, Tags: tags}
}

func ref(kind, id int) api.Ref { return api.Ref{Kind: kind, ID: id} }

// put returns the change that puts a node, a way or a relation.
func put(object any) api.Change {
	c := api.Change{Op: api.OpPut}
	switch x := object.(type) {
	case api.Node:
		c.Kind, c.Node = api.KNode, x
	case api.Way:
		c.Kind, c.Way = api.KWay, x
	case api.Rel:
		c.Kind, c.Rel = api.KRel, x
	}
	return c
}

func drop(kind, id int) api.Change {
	return api.Change{Op: api.OpDelete, Kind: kind, Node: api.Node{ID: id}, Way: api.Way{ID: id}, Rel: api.Rel{ID: id}}
}

func mustApply(t *testing.T, d api.Data, l ...api.Change) api.Data {
	t.Helper()
	out, err := change.Apply(d, l)
	if err != api.OK {
		t.Fatalf("Apply(%v) returns %d", l, err)
	}
	return out
}

func full(t *testing.T, d api.Data) []api.Blob {
	t.Helper()
	l, err := tileset.Full(d)
	if err != api.OK {
		t.Fatalf("Full(%v) returns %d", d, err)
	}
	return l
}

// village is a dataset with areas that touch and cross, roads with a restriction, and names.
func village() api.Data {
	return api.Data{
		Nodes: []api.Node{
			node(1, 100, 100, "name", "Oak", "place", "town"), node(2, 140, 100), node(3, 140, 140), node(4, 100, 140),
			node(5, 180, 100), node(6, 180, 140, "name", "Elm", "place", "village"), node(7, 120, 120), node(8, 160, 120), node(9, 160, 160), node(10, 120, 160),
		},
		Ways: []api.Way{
			way(1, tagList("landuse", "farm"), 1, 2, 3, 4, 1), way(2, tagList("landuse", "farm", "name", "Field"), 2, 5, 6, 3, 2),
			way(3, tagList("landuse", "farm"), 7, 8, 9, 10, 7), way(4, tagList("natural", "water"), 7, 8, 9, 10, 7),
			way(5, tagList("highway", "primary", "name", "Oak Road"), 1, 2, 5), way(6, tagList("highway", "residential"), 2, 3, 6), way(7, tagList("highway", "residential", "oneway", "yes"), 6, 5),
		},
		Rels: []api.Rel{
			{ID: 1, Members: []api.Member{{Ref: ref(api.KWay, 5), Role: "from"}, {Ref: ref(api.KWay, 6), Role: "to"}, {Ref: ref(api.KNode, 2), Role: "via"}}, Tags: tagList("restriction", "no_left_turn", "type", "restriction")},
			{ID: 2, Members: []api.Member{{Ref: ref(api.KWay, 1)}, {Ref: ref(api.KWay, 2)}}, Tags: tagList("building", "yes", "type", "multipolygon")},
		},
	}
}

func pick[T any](r *rand.Rand, l ...T) T { return l[r.Intn(len(l))] }

// someNode returns a node on few tiles, often on a side of one.
func someNode(r *rand.Rand, id int) api.Node {
	n := node(id, pick(r, 250, 256, 262, 280, 300, 510, 512), pick(r, 250, 256, 258, 270, 290))
	switch r.Intn(6) {
	case 0:
		n.Tags = tagList("place", pick(r, "city", "town", "village", "hamlet"), "name", pick(r, "Oak", "Elm North", "Oak North", "St. Oak"))
	case 1:
		n.Tags = tagList("name", pick(r, "Elm", "North Elm", "oak"))
	}
	return n
}

// someWay returns a road or an area along some of the nodes.
func someWay(r *rand.Rand, id, nodes int) api.Way {
	w := way(id, pick(r,
		tagList("highway", "primary", "name", "Oak Road"), tagList("highway", "residential"), tagList("highway", "motorway"), tagList("highway", "track", "oneway", "-1"), tagList("route", "ferry", "every", "60", "first", "30"),
		tagList("natural", "water"), tagList("natural", "water", "name", "Elm Pond"), tagList("landuse", "x"), tagList("landuse", "x"), tagList("building", "x"), tagList("boundary", "x", "area", "yes"), nil))
	for range 2 + r.Intn(4) {
		w.Nodes = append(w.Nodes, 1+r.Intn(nodes))
	}
	if r.Intn(2) == 0 {
		w.Nodes = append(w.Nodes, w.Nodes[0])
	}
	return w
}

// someRel returns an area or a turn restriction.
func someRel(r *rand.Rand, id, nodes, ways int) api.Rel {
	member := func(kind, most int, role string) api.Member {
		return api.Member{Ref: ref(kind, 1+r.Intn(most)), Role: role}
	}
	if r.Intn(2) == 0 {
		return api.Rel{ID: id, Tags: tagList("type", "multipolygon", pick(r, "landuse", "building"), "x"), Members: []api.Member{member(api.KWay, ways, ""), member(api.KWay, ways, "")}}
	}
	return api.Rel{ID: id, Tags: tagList("type", "restriction", "restriction", pick(r, "no_left_turn", "only_straight_on")), Members: []api.Member{member(api.KWay, ways, "from"), member(api.KNode, nodes, "via"), member(api.KWay, ways, "to")}}
}

// world returns a dataset of all kinds of objects.
func world(r *rand.Rand) api.Data {
	var d api.Data
	nodes, ways := 6+r.Intn(6), 4+r.Intn(6)
	for id := 1; id <= nodes; id++ {
		d.Nodes = append(d.Nodes, someNode(r, id))
	}
	for id := 1; id <= ways; id++ {
		d.Ways = append(d.Ways, someWay(r, id, nodes))
	}
	for id := 1; id <= r.Intn(4); id++ {
		d.Rels = append(d.Rels, someRel(r, id, nodes, ways))
	}
	return d
}

// someChanges returns a change file for such a dataset, which is often not possible.
func someChanges(r *rand.Rand) (l []api.Change) {
	for range r.Intn(4) {
		id := 1 + r.Intn(9)
		switch r.Intn(8) {
		case 0, 1, 2:
			l = append(l, put(someNode(r, id)))
		case 3, 4:
			l = append(l, put(someWay(r, id, 6)))
		case 5:
			l = append(l, put(someRel(r, id, 6, 4)))
		case 6:
			l = append(l, drop(pick(r, api.KWay, api.KRel), id))
		case 7:
			l = append(l, drop(api.KNode, id))
		}
	}
	return l
}

// told is the answers of an engine to some questions as a text.
type told struct{ lines []string }

func (x *told) add(l ...any) { x.lines = append(x.lines, fmt.Sprintln(l...)) }

func (x *told) text() string { return strings.Join(x.lines, "") }

// points returns points in and around the objects of a dataset.
func points(d api.Data) (out []api.Point) {
	out = append(out, api.Point{X: -1, Y: 5}, api.Point{X: api.Side - 1, Y: api.Side - 1}, api.Point{X: 130, Y: 130}, api.Point{X: 275, Y: 262})
	last := api.Point{X: 266, Y: 266}
	for _, n := range d.Nodes {
		p, _ := grid.Project(n.At)
		out = append(out, p, api.Point{X: (p.X + last.X) / 2, Y: (p.Y + last.Y) / 2}, api.Point{X: p.X + 1, Y: p.Y + 1})
		last = p
	}
	return out
}

// queries are questions for names.
func queries() []string {
	return []string{"o", "oak", "elm", "n", "oak n", "north elm", "oak road", "pond", "st", "field", "elsewhere", ""}
}

// most is greater than the number of named objects.
const most = 99

// answers returns what the engine answers.
func answers(t *testing.T, e *Engine) string {
	t.Helper()
	d := e.Data()
	var x told
	x.add("version", e.Version())
	x.add("data", codec.PutData(d))
	x.add("tiles", e.Tiles())
	for _, p := range points(d) {
		x.add("at", p, e.At(p))
	}
	n, c := e.Net(), e.Coder()
	r := n.Roads()
	x.add("roads", r, n.Turns(), n.Weights())
	for _, u := range r.Nodes {
		for _, v := range r.Nodes {
			cost, err := n.Dist(u, v)
			x.add("dist", u, v, cost, err)
		}
	}
	x.add("named", c.Len())
	for _, q := range queries() {
		x.add("find", q, c.Find(q, most))
	}
	for _, p := range points(d) {
		x.add("near", p, c.Near(p, most))
	}
	return x.text()
}

// required returns what an engine must answer, computed from the dataset without trees, hierarchies and updates.
func required(t *testing.T, version int, d api.Data) string {
	t.Helper()
	var x told
	x.add("version", version)
	x.add("data", codec.PutData(d))
	x.add("tiles", full(t, d))
	all, _ := areas.All(d)
	planar, _ := areas.Planar(all)
	for _, p := range points(d) {
		var out []api.Ref
		for _, a := range planar {
			if locate.Where(a, p) != api.Outside {
				out = append(out, a.Ref)
			}
		}
		x.add("at", p, out)
	}
	tellRoads(t, &x, d)
	tellNames(&x, d)
	return x.text()
}

func tellRoads(t *testing.T, x *told, d api.Data) {
	t.Helper()
	r, err := roads.Build(d)
	if err != api.OK {
		t.Fatalf("roads.Build(%v) returns %d", d, err)
	}
	l := turns.Of(d)
	x.add("roads", r, l, roads.Base(r))
	g := turns.Expand(r, l)
	w, _ := turns.Weights(r, l, roads.Base(r))
	for i, u := range r.Nodes {
		dist, err := dijkstra.From(g, w, turns.Source(r, i))
		if err != api.OK {
			t.Fatalf("dijkstra.From returns %d", err)
		}
		for j, v := range r.Nodes {
			switch cost := dist[turns.Target(r, j)]; {
			case u == v:
				x.add("dist", u, v, 0, api.OK)
			case cost == api.Inf:
				x.add("dist", u, v, 0, api.ErrPath)
			default:
				x.add("dist", u, v, cost, api.OK)
			}
		}
	}
}

func tellNames(x *told, d api.Data) {
	named := geocode.Named(d)
	x.add("named", len(named))
	byScore := func(score func(h api.Hit) (int, bool)) (out []api.Hit) {
		for _, h := range named {
			if s, ok := score(h); ok {
				h.Score = s
				out = append(out, h)
			}
		}
		slices.SortStableFunc(out, func(a, b api.Hit) int { return a.Score - b.Score })
		return out
	}
	for _, q := range queries() {
		x.add("find", q, byScore(func(h api.Hit) (int, bool) { return geocode.Score(words.Of(h.Name), words.Of(q)) }))
	}
	for _, p := range points(d) {
		x.add("near", p, byScore(func(h api.Hit) (int, bool) {
			return (h.At.X-p.X)*(h.At.X-p.X) + (h.At.Y-p.Y)*(h.At.Y-p.Y), grid.Valid(p)
		}))
	}
}

// check tests that the engine has the version with the dataset, and products as if they had been built from it.
func check(t *testing.T, e *Engine, version int, d api.Data) {
	t.Helper()
	if e.Version() != version || !data.Same(e.Data(), d) {
		t.Fatalf("the engine has version %d with %v, not %d with %v", e.Version(), e.Data(), version, d)
	}
	same(t, answers(t, e), required(t, version, d))
}

// same tests that two texts are equal.
func same(t *testing.T, got, want string) {
	t.Helper()
	if got == want {
		return
	}
	x, y := strings.Split(got, "\n"), strings.Split(want, "\n")
	for i := range min(len(x), len(y)) {
		if x[i] != y[i] {
			t.Fatalf("the engine answers\n%.600q\nand not\n%.600q", x[i], y[i])
		}
	}
	t.Fatalf("the engine answers %d lines, not %d", len(x), len(y))
}
