package roads

import (
	"math"
	"math/big"
	"math/rand"
	"reflect"
	"slices"
	"testing"

	"mapmaker/api"
	"mapmaker/change"
	"mapmaker/classify"
	"mapmaker/data"
	"mapmaker/graph"
	"mapmaker/grid"
	"mapmaker/schedule"
)

// center returns the coordinate in the middle of a grid point.
func center(x, y int) api.Coord {
	c, _ := grid.Center(api.Point{X: x, Y: y})
	return c
}

// tag returns the tags with these keys and values in turn.
func tag(l ...string) (out []api.Tag) {
	for i := 0; i < len(l); i += 2 {
		out = append(out, api.Tag{Key: l[i], Val: l[i+1]})
	}
	return out
}

func same(a, b api.Roads) bool {
	return slices.Equal(a.Nodes, b.Nodes) && slices.Equal(a.At, b.At) && slices.EqualFunc(a.Pieces, b.Pieces, samePiece)
}

func samePiece(a, b api.Piece) bool {
	return a.From == b.From && a.To == b.To && a.Way == b.Way && a.Len == b.Len && a.Class == b.Class && samePlan(a.Plan, b.Plan)
}

func samePlan(a, b api.Schedule) bool {
	return slices.Equal(a.Closed, b.Closed) && a.First == b.First && a.Every == b.Every
}

func TestP46_1Plan(t *testing.T) {
	closed := func(from, to int) api.Schedule { return api.Schedule{Closed: []api.Span{{From: from, To: to}}} }
	for _, y := range []struct {
		l    []api.Tag
		want api.Schedule
	}{
		{nil, api.Schedule{}}, {tag("highway", "track"), api.Schedule{}},
		{tag("closed_from", "60", "closed_to", "120"), closed(60, 120)}, {tag("closed_from", "0", "closed_to", "1440"), closed(0, 1440)}, {tag("closed_from", "1439", "closed_to", "1440"), closed(1439, 1440)}, {tag("closed_from", "007", "closed_to", "08"), closed(7, 8)},
		{tag("closed_from", "60", "closed_to", "60"), api.Schedule{}}, {tag("closed_from", "61", "closed_to", "60"), api.Schedule{}}, {tag("closed_from", "0", "closed_to", "1441"), api.Schedule{}}, {tag("closed_from", "60"), api.Schedule{}}, {tag("closed_to", "60"), api.Schedule{}},
		{tag("closed_from", "-1", "closed_to", "60"), api.Schedule{}}, {tag("closed_from", "x", "closed_to", "60"), api.Schedule{}}, {tag("closed_from", "", "closed_to", "60"), api.Schedule{}}, {tag("closed_from", "6", "closed_to", "6 0"), api.Schedule{}},
		{tag("every", "60", "first", "30"), api.Schedule{First: 30, Every: 60}}, {tag("every", "1", "first", "0"), api.Schedule{Every: 1}}, {tag("every", "1440", "first", "1439"), api.Schedule{First: 1439, Every: 1440}},
		{tag("every", "0", "first", "30"), api.Schedule{}}, {tag("every", "1441", "first", "30"), api.Schedule{}}, {tag("every", "60", "first", "1440"), api.Schedule{}}, {tag("every", "60"), api.Schedule{}}, {tag("first", "30"), api.Schedule{}}, {tag("every", "-5", "first", "3"), api.Schedule{}}, {tag("every", "60", "first", "-1"), api.Schedule{}}, {tag("every", "1234567890", "first", "3"), api.Schedule{}},
		// Each half stands for itself.
		{tag("closed_from", "60", "closed_to", "120", "every", "60", "first", "30"), api.Schedule{Closed: []api.Span{{From: 60, To: 120}}, First: 30, Every: 60}},
		{tag("closed_from", "60", "closed_to", "120", "every", "60", "first", "x"), closed(60, 120)}, {tag("closed_from", "60", "closed_to", "12", "every", "60", "first", "30"), api.Schedule{First: 30, Every: 60}},
		// The first tag with a key counts.
		{tag("every", "5", "every", "6", "first", "7"), api.Schedule{First: 7, Every: 5}},
	} {
		if s := Plan(y.l); !samePlan(s, y.want) || schedule.Check(s) != api.OK {
			t.Errorf("Plan(%v) is %v, not %v", y.l, s, y.want)
		}
	}
}

// sample returns a valid dataset in which the nodes 5 and 7 have the same point.
func sample() api.Data {
	return api.Data{
		Nodes: []api.Node{{ID: 2, At: center(10, 10)}, {ID: 5, At: center(13, 14)}, {ID: 7, At: center(13, 14)}, {ID: 8, At: center(0, 0)}, {ID: 9, At: center(13, 2)}, {ID: 11, At: center(20, 2)}},
		Ways: []api.Way{
			{ID: 1, Nodes: []int{9, 5, 7, 2}, Tags: tag("highway", "track", "oneway", "-1")},
			{ID: 3, Nodes: []int{2, 9}, Tags: tag("every", "60", "first", "30", "route", "ferry")},
			{ID: 4, Nodes: []int{2, 8}},
			{ID: 5, Nodes: []int{5, 7}, Tags: tag("highway", "primary")},
			{ID: 6, Nodes: []int{11, 9, 11}, Tags: tag("highway", "motorway")},
			{ID: 8, Nodes: []int{8, 2}, Tags: tag("highway", "path")},
			{ID: 9, Nodes: []int{7, 2}, Tags: tag("closed_from", "5", "closed_to", "9", "highway", "residential")},
		},
	}
}

func TestP46_2Build(t *testing.T) {
	ferry, night := api.Schedule{First: 30, Every: 60}, api.Schedule{Closed: []api.Span{{From: 5, To: 9}}}
	want := api.Roads{
		Nodes: []int{2, 5, 7, 9, 11},
		At:    []api.Point{{X: 10, Y: 10}, {X: 13, Y: 14}, {X: 13, Y: 14}, {X: 13, Y: 2}, {X: 20, Y: 2}},
		Pieces: []api.Piece{
			{From: 1, To: 3, Way: 1, Len: 192, Class: 5}, {From: 0, To: 1, Way: 1, Len: 80, Class: 5},
			{From: 0, To: 3, Way: 3, Len: 136, Class: 6, Plan: ferry}, {From: 3, To: 0, Way: 3, Len: 136, Class: 6, Plan: ferry},
			{From: 4, To: 3, Way: 6, Len: 112, Class: 1}, {From: 3, To: 4, Way: 6, Len: 112, Class: 1},
			{From: 2, To: 0, Way: 9, Len: 80, Class: 4, Plan: night}, {From: 0, To: 2, Way: 9, Len: 80, Class: 4, Plan: night},
		},
	}
	r, err := Build(sample())
	if err != api.OK || !same(r, want) {
		t.Errorf("Build returns %v, %d, not %v", r, err, want)
	}
	if r, err := Build(api.Data{}); err != api.OK || !same(r, api.Roads{}) {
		t.Errorf("Build of the empty dataset returns %v, %d", r, err)
	}
}

func TestP46_2Example(t *testing.T) {
	d := api.Data{Nodes: []api.Node{{ID: 1, At: center(100, 50)}, {ID: 2, At: center(110, 50)}}, Ways: []api.Way{{ID: 7, Nodes: []int{1, 2}, Tags: tag("highway", "primary")}}}
	r, err := Build(d)
	want := []api.Piece{{From: 0, To: 1, Way: 7, Len: 160, Class: 2}, {From: 1, To: 0, Way: 7, Len: 160, Class: 2}}
	if err != api.OK || !slices.EqualFunc(r.Pieces, want, samePiece) || !slices.Equal(Base(r), []int{320, 320}) {
		t.Errorf("Build returns %v, %d", r, err)
	}
}

func TestP46_2Oneway(t *testing.T) {
	for _, y := range []struct {
		l    []api.Tag
		want []api.Arc
	}{
		{tag("highway", "primary"), []api.Arc{{From: 0, To: 1}, {From: 1, To: 0}, {From: 1, To: 2}, {From: 2, To: 1}}},
		{tag("highway", "primary", "oneway", "yes"), []api.Arc{{From: 0, To: 1}, {From: 1, To: 2}}},
		{tag("highway", "primary", "oneway", "-1"), []api.Arc{{From: 1, To: 0}, {From: 2, To: 1}}},
		{tag("highway", "motorway"), []api.Arc{{From: 0, To: 1}, {From: 1, To: 2}}},
		{tag("highway", "motorway", "oneway", "no"), []api.Arc{{From: 0, To: 1}, {From: 1, To: 0}, {From: 1, To: 2}, {From: 2, To: 1}}},
		{tag("highway", "steps"), nil}, {tag("building", "yes"), nil},
		// The theme does not matter, only the class.
		{tag("highway", "track", "natural", "water", "oneway", "yes"), []api.Arc{{From: 0, To: 1}, {From: 1, To: 2}}},
	} {
		d := api.Data{Ways: []api.Way{{ID: 1, Nodes: []int{3, 4, 9}, Tags: y.l}}}
		for i, id := range []int{3, 4, 9} {
			d.Nodes = append(d.Nodes, api.Node{ID: id, At: center(5*i, 7*i)})
		}
		r, err := Build(d)
		if g := Graph(r); err != api.OK || !slices.Equal(g.Arcs, y.want) || y.want != nil && g.N != 3 || y.want == nil && g.N != 0 {
			t.Errorf("%v: Build returns %v, %d", y.l, r, err)
		}
	}
}

func TestP46_2Length(t *testing.T) {
	r := rand.New(rand.NewSource(1))
	for i := range 300 {
		a, b := api.Point{X: r.Intn(api.Side), Y: r.Intn(api.Side)}, api.Point{X: r.Intn(api.Side), Y: r.Intn(api.Side)}
		switch i {
		case 0:
			a, b = api.Point{}, api.Point{X: api.Side - 1, Y: api.Side - 1}
		case 1:
			a, b = api.Point{X: 5, Y: 5}, api.Point{X: 6, Y: 6}
		}
		d := api.Data{Nodes: []api.Node{{ID: 1, At: center(a.X, a.Y)}, {ID: 2, At: center(b.X, b.Y)}}, Ways: []api.Way{{ID: 1, Nodes: []int{1, 2}, Tags: tag("highway", "track")}}}
		n, err := Build(d)
		square := big.NewInt(int64((a.X-b.X)*(a.X-b.X) + (a.Y-b.Y)*(a.Y-b.Y)))
		want := new(big.Int).Sqrt(square.Mul(square, big.NewInt(256))).Int64()
		if err != api.OK || len(n.Pieces) != 2 || int64(n.Pieces[0].Len) != want || int64(n.Pieces[1].Len) != want || Check(n) != api.OK {
			t.Fatalf("from %v to %v: %v, %d, not %d", a, b, n.Pieces, err, want)
		}
	}
}

func TestP46_2Errors(t *testing.T) {
	for _, y := range []struct {
		spoil func(d *api.Data)
		want  api.Errno
	}{
		{func(d *api.Data) { d.Nodes = make([]api.Node, api.MaxObject+1) }, api.ErrLong}, {func(d *api.Data) { d.Nodes[0].ID = 0 }, api.ErrRange}, {func(d *api.Data) { d.Nodes[1].ID = 2 }, api.ErrOrder},
		{func(d *api.Data) { d.Nodes[0].At.Lat = api.MaxLat + 1 }, api.ErrCoord}, {func(d *api.Data) { d.Ways[0].Nodes = nil }, api.ErrShort}, {func(d *api.Data) { d.Ways[0].Nodes[0] = 77 }, api.ErrRef}, {func(d *api.Data) { d.Rels = []api.Rel{{ID: 1, Tags: tag("", "x")}} }, api.ErrTag},
	} {
		d := sample()
		y.spoil(&d)
		if r, err := Build(d); err != y.want || !same(r, api.Roads{}) {
			t.Errorf("Build returns %v, %d, not %d", r, err, y.want)
		}
	}
}

// network returns a valid network.
func network() api.Roads {
	return api.Roads{Nodes: []int{2, 5, 9}, At: make([]api.Point, 3), Pieces: []api.Piece{{From: 0, To: 2, Way: 1, Len: 5, Class: 3}, {From: 2, To: 1, Way: 8, Len: 7, Class: 6, Plan: api.Schedule{First: 3, Every: 10}}}}
}

// flaw is a change that makes the network, or its second piece, invalid.
type flaw struct {
	spoil func(r *api.Roads)
	err   api.Errno
}

// flaws has the flaws in the order in which Check finds them; those of one line are found at once.
func flaws() [][]flaw {
	piece := func(err api.Errno, spoil func(p *api.Piece)) flaw {
		return flaw{func(r *api.Roads) { spoil(&r.Pieces[1]) }, err}
	}
	return [][]flaw{
		{{func(r *api.Roads) { r.At = r.At[1:] }, api.ErrShort}, {func(r *api.Roads) { r.At = append(r.At, api.Point{}) }, api.ErrShort}},
		{{func(r *api.Roads) { r.Nodes[1] = 2 }, api.ErrOrder}, {func(r *api.Roads) { r.Nodes[2] = math.MinInt }, api.ErrOrder}},
		{
			piece(api.ErrRange, func(p *api.Piece) { p.From = -1 }), piece(api.ErrRange, func(p *api.Piece) { p.From = 3 }), piece(api.ErrRange, func(p *api.Piece) { p.To = -1 }), piece(api.ErrRange, func(p *api.Piece) { p.To = 3 }),
			piece(api.ErrRange, func(p *api.Piece) { p.Way = 0 }), piece(api.ErrRange, func(p *api.Piece) { p.Way = api.MaxID + 1 }), piece(api.ErrRange, func(p *api.Piece) { p.Class = 0 }), piece(api.ErrRange, func(p *api.Piece) { p.Class = 7 }),
			piece(api.ErrRange, func(p *api.Piece) { p.Len = -1 }), piece(api.ErrRange, func(p *api.Piece) { p.Len = api.MaxWeight/16 + 1 }), piece(api.ErrRange, func(p *api.Piece) { p.Len = math.MaxInt }),
		},
		{
			piece(api.ErrTime, func(p *api.Piece) { p.Plan.Every = -1 }), piece(api.ErrLong, func(p *api.Piece) { p.Plan.Closed = make([]api.Span, 9) }),
			piece(api.ErrRange, func(p *api.Piece) { p.Plan.Closed = []api.Span{{From: 5, To: 5}} }), piece(api.ErrOrder, func(p *api.Piece) { p.Plan.Closed = []api.Span{{From: 5, To: 9}, {From: 8, To: 10}} }),
		},
	}
}

func TestP46_3Check(t *testing.T) {
	extreme := api.Roads{Nodes: []int{math.MinInt, -3, 0, math.MaxInt}, At: []api.Point{{X: -1}, {Y: math.MaxInt}, {}, {}}, Pieces: []api.Piece{{From: 3, To: 3, Way: api.MaxID, Class: 1}, {Way: 1, Len: api.MaxWeight / 16, Class: 6}}}
	for i, r := range []api.Roads{{}, network(), extreme, {Nodes: []int{7}, At: make([]api.Point, 1)}} {
		if err := Check(r); err != api.OK {
			t.Errorf("%d: Check is %d", i, err)
		}
	}
	for _, l := range flaws() {
		for j, f := range l {
			r := network()
			f.spoil(&r)
			if err := Check(r); err != f.err {
				t.Errorf("flaw %d: Check is %d, not %d", j, err, f.err)
			}
		}
	}
	if err := Check(api.Roads{Pieces: []api.Piece{{Way: 1, Class: 1}}}); err != api.ErrRange {
		t.Errorf("Check of a piece without nodes is %d", err)
	}
}

func TestP46_3FirstError(t *testing.T) {
	all := flaws()
	for i, early := range all {
		for _, late := range all[i+1:] {
			for _, a := range early {
				for _, b := range late {
					r := network()
					b.spoil(&r)
					a.spoil(&r)
					if err := Check(r); err != a.err {
						t.Errorf("Check is %d, not %d, which comes before %d", err, a.err, b.err)
					}
				}
			}
		}
	}
	// An error of the first piece comes before those of the second one.
	r := network()
	r.Pieces[0].Plan.Every, r.Pieces[1].From = -1, 9
	if err := Check(r); err != api.ErrTime {
		t.Errorf("Check is %d, not the error of the first piece", err)
	}
}

func TestP46_3Vertex(t *testing.T) {
	r := api.Roads{Nodes: []int{-4, 2, 5, 9}, At: make([]api.Point, 4)}
	for node, want := range map[int]int{-4: 0, 2: 1, 5: 2, 9: 3, 0: -1, 1: -1, 3: -1, 10: -1, math.MinInt: -1, math.MaxInt: -1} {
		v, ok := Vertex(r, node)
		if ok != (want >= 0) || v != max(want, 0) {
			t.Errorf("Vertex(%d) is %d, %v", node, v, ok)
		}
	}
	if v, ok := Vertex(api.Roads{}, 0); v != 0 || ok {
		t.Errorf("Vertex of no nodes is %d, %v", v, ok)
	}
}

func TestP46_3GraphBase(t *testing.T) {
	r := network()
	for class := 1; class <= 6; class++ {
		r.Pieces = append(r.Pieces, api.Piece{From: 1, To: 1, Way: 3, Len: api.MaxWeight / 16, Class: class})
	}
	g := Graph(r)
	loop := api.Arc{From: 1, To: 1}
	if g.N != 3 || !slices.Equal(g.Arcs, []api.Arc{{From: 0, To: 2}, {From: 2, To: 1}, loop, loop, loop, loop, loop, loop}) || graph.Check(g) != api.OK {
		t.Errorf("Graph is %v", g)
	}
	const most = api.MaxWeight / 16
	if l := Base(r); !slices.Equal(l, []int{15, 70, most, 2 * most, 3 * most, 5 * most, 8 * most, 10 * most}) {
		t.Errorf("Base is %v", l)
	}
	if g := Graph(api.Roads{}); g.N != 0 || len(g.Arcs) != 0 || len(Base(api.Roads{})) != 0 {
		t.Error("the empty network has a graph or weights")
	}
}

// random returns a valid dataset with nodes in a small square and ways with various tags.
func random(r *rand.Rand) (d api.Data) {
	n := 2 + r.Intn(8)
	for i := range n {
		d.Nodes = append(d.Nodes, api.Node{ID: 3*i + 1, At: center(r.Intn(4), r.Intn(4))})
	}
	kinds := [][]api.Tag{nil, tag("highway", "motorway"), tag("highway", "track", "oneway", "-1"), tag("route", "ferry"), tag("closed_from", "3", "closed_to", "9", "highway", "secondary", "oneway", "yes"), tag("building", "yes"), tag("every", "20", "first", "5", "route", "ferry")}
	for i := range r.Intn(6) {
		w := api.Way{ID: 2*i + 1, Tags: kinds[r.Intn(len(kinds))]}
		for range 2 + r.Intn(4) {
			w.Nodes = append(w.Nodes, 3*r.Intn(n)+1)
		}
		d.Ways = append(d.Ways, w)
	}
	return d
}

// build follows the ways node by node.
func build(d api.Data) (out api.Roads) {
	at := map[int]api.Point{}
	for _, n := range d.Nodes {
		at[n.ID], _ = grid.Project(n.At)
	}
	type link struct{ u, v, way int }
	var links []link
	used := map[int]bool{}
	for i, w := range d.Ways {
		class, oneway := classify.Class(w.Tags), classify.Oneway(w.Tags)
		if class == 0 {
			continue
		}
		u := w.Nodes[0]
		for _, v := range w.Nodes[1:] {
			if at[u] == at[v] {
				continue
			}
			used[u], used[v] = true, true
			if oneway >= 0 {
				links = append(links, link{u, v, i})
			}
			if oneway <= 0 {
				links = append(links, link{v, u, i})
			}
			u = v
		}
	}
	place := map[int]int{}
	for _, n := range d.Nodes {
		if used[n.ID] {
			place[n.ID] = len(out.Nodes)
			out.Nodes, out.At = append(out.Nodes, n.ID), append(out.At, at[n.ID])
		}
	}
	for _, l := range links {
		w, a, b := d.Ways[l.way], at[l.u], at[l.v]
		square := big.NewInt(int64(256 * ((a.X-b.X)*(a.X-b.X) + (a.Y-b.Y)*(a.Y-b.Y))))
		out.Pieces = append(out.Pieces, api.Piece{From: place[l.u], To: place[l.v], Way: w.ID, Len: int(square.Sqrt(square).Int64()), Class: classify.Class(w.Tags), Plan: Plan(w.Tags)})
	}
	return out
}

func TestP46_2Random(t *testing.T) {
	r := rand.New(rand.NewSource(2))
	for range 3000 {
		d := random(r)
		if data.Check(d) != api.OK {
			t.Fatalf("%v is not valid", d)
		}
		if n, err := Build(d); err != api.OK || !same(n, build(d)) {
			t.Fatalf("Build(%v) returns %v, %d, not %v", d, n, err, build(d))
		}
	}
}

func TestP46_4Check(t *testing.T) {
	r := rand.New(rand.NewSource(3))
	for range 2000 {
		n, err := Build(random(r))
		if err != api.OK || Check(n) != api.OK || graph.Check(Graph(n)) != api.OK || len(Base(n)) != len(n.Pieces) {
			t.Fatalf("Check of a network is %d", Check(n))
		}
		for i, node := range n.Nodes {
			if v, ok := Vertex(n, node); v != i || !ok {
				t.Fatalf("Vertex of node %d is %d, %v", node, v, ok)
			}
			if !slices.ContainsFunc(n.Pieces, func(p api.Piece) bool { return p.From == i || p.To == i }) {
				t.Fatalf("node %d has no piece", node)
			}
		}
	}
}

func TestP46_4OtherObjects(t *testing.T) {
	d := sample()
	want, _ := Build(d)
	l := []api.Change{
		{Op: api.OpPut, Kind: api.KNode, Node: api.Node{ID: 8, At: center(1, 1), Tags: tag("place", "city")}},
		{Op: api.OpPut, Kind: api.KNode, Node: api.Node{ID: 1, At: center(10, 10)}},
		{Op: api.OpPut, Kind: api.KWay, Way: api.Way{ID: 2, Nodes: []int{1, 8, 2}, Tags: tag("landuse", "farm")}},
		{Op: api.OpDelete, Kind: api.KWay, Way: api.Way{ID: 4}},
		{Op: api.OpPut, Kind: api.KRel, Rel: api.Rel{ID: 1, Members: []api.Member{{Ref: api.Ref{Kind: api.KWay, ID: 1}}}, Tags: tag("route", "ferry")}},
	}
	changed, err := change.Apply(d, l)
	if err != api.OK {
		t.Fatal(err)
	}
	if n, err := Build(changed); err != api.OK || !same(n, want) {
		t.Errorf("the network became %v, %d", n, err)
	}
}

// TestP46_Aliasing checks that the functions do not change their arguments and that no two plans of a network share memory.
func TestP46_Aliasing(t *testing.T) {
	d := sample()
	n, _ := Build(d)
	plans := 0
	for _, p := range n.Pieces {
		for i := range p.Plan.Closed {
			if p.Plan.Closed[i] != (api.Span{From: 5, To: 9}) {
				t.Errorf("the plan is %v", p.Plan)
			}
			p.Plan.Closed[i] = api.Span{From: 1, To: 2}
			plans++
		}
	}
	if plans != 2 || !reflect.DeepEqual(d, sample()) {
		t.Error("Build changed the dataset")
	}
	r := network()
	Check(r)
	Vertex(r, 5)
	clear(Graph(r).Arcs)
	clear(Base(r))
	if !reflect.DeepEqual(r, network()) {
		t.Errorf("the network became %v", r)
	}
}
