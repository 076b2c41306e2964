package normal

import (
	"math"
	"math/rand"
	"reflect"
	"slices"
	"testing"

	"mapmaker/api"
	"mapmaker/classify"
	"mapmaker/data"
	"mapmaker/grid"
)

// center returns the coordinate in the middle of a grid point.
func center(x, y int) api.Coord {
	c, _ := grid.Center(api.Point{X: x, Y: y})
	return c
}

// sample returns a valid dataset in which the nodes 1 and 2 and the nodes 4 and 8 have the same points.
func sample() api.Data {
	return api.Data{
		Nodes: []api.Node{
			{ID: 1, At: center(5, 5)},
			{ID: 2, At: center(5, 5), Tags: []api.Tag{{Key: "highway", Val: "track"}, {Key: "place", Val: "city"}}},
			{ID: 3, At: center(6, 5), Tags: []api.Tag{{Key: "place", Val: "town"}}},
			{ID: 4, At: center(7, 7), Tags: []api.Tag{{Key: "name", Val: "x"}}},
			{ID: 8, At: center(7, 7), Tags: []api.Tag{{Key: "place"}}},
			{ID: 9, At: api.Coord{Lon: api.MaxLon, Lat: -api.MaxLat}},
		},
		Ways: []api.Way{
			{ID: 1, Nodes: []int{1, 2, 3}, Tags: []api.Tag{{Key: "highway", Val: "track"}}},
			{ID: 2, Nodes: []int{1, 2}},
			{ID: 5, Nodes: []int{2, 1, 3, 3, 4, 8, 1, 2}},
			{ID: 6, Nodes: []int{4, 4, 8}},
			{ID: 7, Nodes: []int{9, 1}},
		},
		Rels: []api.Rel{{ID: 1, Members: []api.Member{{Ref: api.Ref{Kind: api.KWay, ID: 5}}}}},
	}
}

func pts(numbers ...int) (out []api.Point) {
	for i := 0; i < len(numbers); i += 2 {
		out = append(out, api.Point{X: numbers[i], Y: numbers[i+1]})
	}
	return out
}

func samePlace(a, b api.Place) bool {
	return a.ID == b.ID && a.At == b.At && slices.Equal(a.Tags, b.Tags)
}

func sameLine(a, b api.Line) bool {
	return a.ID == b.ID && slices.Equal(a.Pts, b.Pts) && slices.Equal(a.Nodes, b.Nodes) && slices.Equal(a.Tags, b.Tags)
}

func same(a, b [][]int) bool { return slices.EqualFunc(a, b, slices.Equal) }

func TestP19_1Points(t *testing.T) {
	d := sample()
	want := []api.Place{
		{ID: 1, At: api.Point{X: 5, Y: 5}}, {ID: 2, At: api.Point{X: 5, Y: 5}, Tags: d.Nodes[1].Tags}, {ID: 3, At: api.Point{X: 6, Y: 5}, Tags: d.Nodes[2].Tags},
		{ID: 4, At: api.Point{X: 7, Y: 7}, Tags: d.Nodes[3].Tags}, {ID: 8, At: api.Point{X: 7, Y: 7}, Tags: d.Nodes[4].Tags}, {ID: 9, At: api.Point{X: 32767, Y: 32767}},
	}
	if l := Points(d); !slices.EqualFunc(l, want, samePlace) {
		t.Errorf("Points is %v, not %v", l, want)
	}
	// Node 2 is a road by its tags, and a road is no settlement.
	if l := Places(d); !slices.EqualFunc(l, []api.Place{want[2], want[4]}, samePlace) {
		t.Errorf("Places is %v", l)
	}
	if len(Points(api.Data{})) != 0 || len(Places(api.Data{})) != 0 {
		t.Error("the empty dataset has points")
	}
}

func TestP19_1Closed(t *testing.T) {
	for _, y := range []struct {
		nodes []int
		want  bool
	}{
		{nil, false}, {[]int{1}, false}, {[]int{1, 1}, false}, {[]int{1, 2, 1}, false}, {[]int{1, 2, 3, 1}, true}, {[]int{1, 1, 1, 1}, true},
		{[]int{1, 2, 3, 4}, false}, {[]int{1, 2, 1, 2}, false}, {[]int{1, 2, 3, 4, 1}, true}, {[]int{-1, 2, 3, -1}, true}, {[]int{2, 1, 3, 1}, false},
		{[]int{math.MaxInt, 0, 0, math.MinInt}, false},
	} {
		if ok := Closed(api.Way{ID: 1, Nodes: y.nodes}); ok != y.want {
			t.Errorf("Closed(%v) is %v", y.nodes, ok)
		}
	}
}

func TestP19_2Lines(t *testing.T) {
	d := sample()
	want := []api.Line{
		{ID: 1, Pts: pts(5, 5, 6, 5), Nodes: []int{1, 3}, Tags: d.Ways[0].Tags},
		{ID: 5, Pts: pts(5, 5, 6, 5, 7, 7, 5, 5), Nodes: []int{2, 3, 4, 1}},
		{ID: 7, Pts: pts(32767, 32767, 5, 5), Nodes: []int{9, 1}},
	}
	if l := Lines(d); !slices.EqualFunc(l, want, sameLine) {
		t.Errorf("Lines is %v, not %v", l, want)
	}
	if l := Lines(api.Data{}); len(l) != 0 {
		t.Errorf("Lines of the empty dataset is %v", l)
	}
}

func TestP19_2Line(t *testing.T) {
	d := sample()
	tags := []api.Tag{{Key: "b"}, {Key: "a"}, {Key: "a"}}
	for _, y := range []struct {
		w    api.Way
		want api.Line
		ok   bool
	}{
		{d.Ways[0], api.Line{ID: 1, Pts: pts(5, 5, 6, 5), Nodes: []int{1, 3}, Tags: d.Ways[0].Tags}, true},
		{d.Ways[1], api.Line{}, false},
		{api.Way{}, api.Line{}, false},
		{api.Way{ID: 3, Nodes: []int{1}, Tags: tags}, api.Line{}, false},
		{api.Way{ID: 3, Nodes: []int{1, 7}, Tags: tags}, api.Line{}, false},
		{api.Way{ID: 3, Nodes: []int{0, 1, 3}}, api.Line{}, false},
		{api.Way{ID: 3, Nodes: []int{1, 3, -1}}, api.Line{}, false},
		{api.Way{ID: 3, Nodes: []int{1, 2, 1, 1}}, api.Line{}, false},
		{api.Way{ID: 3, Nodes: []int{3, 8, 4}}, api.Line{ID: 3, Pts: pts(6, 5, 7, 7), Nodes: []int{3, 8}}, true},
		{api.Way{ID: 3, Nodes: []int{1, 3, 2, 3}}, api.Line{ID: 3, Pts: pts(5, 5, 6, 5, 5, 5, 6, 5), Nodes: []int{1, 3, 2, 3}}, true},
		// A way that no dataset could have.
		{api.Way{ID: -7, Nodes: []int{2, 3}, Tags: tags}, api.Line{ID: -7, Pts: pts(5, 5, 6, 5), Nodes: []int{2, 3}, Tags: tags}, true},
	} {
		if l, ok := Line(d, y.w); !sameLine(l, y.want) || ok != y.ok {
			t.Errorf("Line(%v) is %v, %v, not %v, %v", y.w, l, ok, y.want, y.ok)
		}
	}
	long := api.Way{ID: 3, Nodes: slices.Repeat([]int{1, 3}, 2000)}
	if l, ok := Line(d, long); !ok || len(l.Pts) != 4000 || len(l.Nodes) != 4000 {
		t.Errorf("Line of a long way has %d points", len(l.Pts))
	}
}

func TestP19_2Merged(t *testing.T) {
	if m := Merged(sample()); !same(m, [][]int{{1, 2}, {4, 8}}) {
		t.Errorf("Merged is %v", m)
	}
	if m := Merged(api.Data{}); len(m) != 0 {
		t.Errorf("Merged of the empty dataset is %v", m)
	}
	r := rand.New(rand.NewSource(1))
	for range 500 {
		d := random(r)
		var want [][]int
		for i, n := range d.Nodes {
			p, _ := grid.Project(n.At)
			set, first := []int{n.ID}, true
			for j, m := range d.Nodes {
				if q, _ := grid.Project(m.At); q == p && j != i {
					set, first = append(set, m.ID), first && j > i
				}
			}
			if first && len(set) > 1 {
				want = append(want, set)
			}
		}
		if m := Merged(d); !same(m, want) {
			t.Fatalf("Merged is %v, not %v", m, want)
		}
	}
}

func TestP19_Invalid(t *testing.T) {
	for i, spoil := range []func(d *api.Data){
		func(d *api.Data) { d.Nodes[0].At.Lon = api.MaxLon + 1 },
		func(d *api.Data) { d.Nodes[0].ID = 2 },
		func(d *api.Data) { d.Ways[0].Nodes = []int{1, 7} },
		func(d *api.Data) { d.Ways[0].Nodes = []int{1} },
		func(d *api.Data) { d.Rels[0].Members[0].Ref.ID = 9 },
		func(d *api.Data) { d.Rels[0].ID = 0 },
	} {
		d := sample()
		spoil(&d)
		if data.Check(d) == api.OK {
			t.Fatalf("%d: the dataset is valid", i)
		}
		if Points(d) != nil || Places(d) != nil || Lines(d) != nil || Merged(d) != nil {
			t.Errorf("%d: a list of a dataset that is not valid is not nil", i)
		}
		if l, ok := Line(d, api.Way{ID: 1, Nodes: []int{3, 4}}); ok || !reflect.DeepEqual(l, api.Line{}) {
			t.Errorf("%d: Line is %v, %v", i, l, ok)
		}
	}
}

// random returns a valid dataset whose nodes are on few grid points.
func random(r *rand.Rand) (d api.Data) {
	kinds := [][]api.Tag{nil, {{Key: "place", Val: "town"}}, {{Key: "building"}, {Key: "place"}}, {{Key: "name"}}}
	for id := 1; id <= 12; id++ {
		if r.Intn(4) > 0 || id == 12 {
			at := center(r.Intn(3), r.Intn(2))
			at.Lon += r.Intn(2000) - 1000
			d.Nodes = append(d.Nodes, api.Node{ID: id, At: at, Tags: kinds[r.Intn(len(kinds))]})
		}
	}
	for id := 1; id <= 5; id++ {
		w := api.Way{ID: id, Tags: kinds[r.Intn(len(kinds))]}
		for range 2 + r.Intn(5) {
			w.Nodes = append(w.Nodes, d.Nodes[r.Intn(len(d.Nodes))].ID)
		}
		d.Ways = append(d.Ways, w)
	}
	return d
}

// line restates the line of a way: the points where a run of equal ones begins.
func line(d api.Data, w api.Way) (api.Line, bool) {
	var at []api.Point
	for _, id := range w.Nodes {
		n, ok := data.Node(d, id)
		if !ok {
			return api.Line{}, false
		}
		p, _ := grid.Project(n.At)
		at = append(at, p)
	}
	out := api.Line{ID: w.ID, Tags: w.Tags}
	for i := range at {
		if i == 0 || at[i] != at[i-1] {
			out.Pts, out.Nodes = append(out.Pts, at[i]), append(out.Nodes, w.Nodes[i])
		}
	}
	if len(out.Pts) < 2 {
		return api.Line{}, false
	}
	return out, true
}

func TestP19_3Random(t *testing.T) {
	r := rand.New(rand.NewSource(2))
	for range 2000 {
		d := random(r)
		var lines []api.Line
		for _, w := range d.Ways {
			want, wantOK := line(d, w)
			if l, ok := Line(d, w); ok != wantOK || !sameLine(l, want) {
				t.Fatalf("Line(%v) is %v, %v, not %v", w, l, ok, want)
			}
			if wantOK {
				lines = append(lines, want)
			}
		}
		if l := Lines(d); !slices.EqualFunc(l, lines, sameLine) {
			t.Fatalf("Lines is %v, not %v", l, lines)
		}
		for _, l := range Lines(d) {
			for i := range l.Pts[1:] {
				if l.Pts[i] == l.Pts[i+1] {
					t.Fatalf("consecutive points of %v are equal", l)
				}
			}
		}
		var places []api.Place
		for _, p := range Points(d) {
			if classify.Theme(p.Tags) == api.Settle {
				places = append(places, p)
			}
		}
		if l := Places(d); !slices.EqualFunc(l, places, samePlace) {
			t.Fatalf("Places is %v, not %v", l, places)
		}
	}
}

func TestP19_3Independence(t *testing.T) {
	r := rand.New(rand.NewSource(3))
	for range 1000 {
		d, e := random(r), random(r)
		i := r.Intn(len(d.Nodes))
		alone := Points(api.Data{Nodes: []api.Node{d.Nodes[i]}})
		if l := Points(d); len(alone) != 1 || !samePlace(l[i], alone[0]) {
			t.Fatalf("the point of %v is %v alone and %v with others", d.Nodes[i], alone, l[i])
		}
		// e with way 1 of d and its nodes in place of its own ones.
		for _, id := range d.Ways[0].Nodes {
			n, _ := data.Node(d, id)
			e.Nodes = slices.DeleteFunc(e.Nodes, func(m api.Node) bool { return m.ID == id })
			e.Nodes = append(e.Nodes, n)
		}
		slices.SortFunc(e.Nodes, func(a, b api.Node) int { return a.ID - b.ID })
		e.Ways[0] = d.Ways[0]
		if data.Check(e) != api.OK {
			t.Fatal("the dataset is not valid")
		}
		a, okA := Line(d, d.Ways[0])
		b, okB := Line(e, e.Ways[0])
		if okA != okB || !sameLine(a, b) {
			t.Fatalf("the line of a way is %v in one dataset and %v in another one", a, b)
		}
	}
}

func TestP19_Aliasing(t *testing.T) {
	d := sample()
	for _, p := range append(Points(d), Places(d)...) {
		clear(p.Tags)
	}
	l, _ := Line(d, d.Ways[0])
	for _, l := range append(Lines(d), l) {
		clear(l.Pts)
		clear(l.Nodes)
		clear(l.Tags)
	}
	for _, set := range Merged(d) {
		set = append(set, -1)
		clear(set)
	}
	if !reflect.DeepEqual(d, sample()) {
		t.Error("a result shares memory with the dataset")
	}
}
