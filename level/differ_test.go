package level

import (
	"math/rand"
	"reflect"
	"slices"
	"testing"

	"mapmaker/api"
)

func place(id, x, y int, tags ...string) api.Place {
	return api.Place{ID: id, At: at(x, y), Tags: tagList(tags...)}
}

// line returns a line whose nodes have the numbers from id on.
func line(id int, tags []api.Tag, l ...int) api.Line {
	x := api.Line{ID: id, Pts: pts(l...), Tags: tags}
	for i := range x.Pts {
		x.Nodes = append(x.Nodes, id+i)
	}
	return x
}

func area(kind, id, theme int, tags []api.Tag, rings ...[]api.Point) api.Area {
	return api.Area{Ref: api.Ref{Kind: kind, ID: id}, Theme: theme, Tags: tags, Rings: rings}
}

func box(x0, y0, x1, y1 int) api.Box { return api.Box{X0: x0, Y0: y0, X1: x1, Y1: y1} }

// sample is a level with a feature of each kind.
func sample() api.Level {
	return api.Level{
		Zoom:   3,
		Places: []api.Place{place(1, 5, 6, "place", "city")},
		Lines:  []api.Line{line(2, tagList("highway", "track"), 1, 9, 4, 2)},
		Areas:  []api.Area{area(api.KWay, 2, api.Land, tagList("landuse", "x"), pts(10, 10, 20, 10, 20, 30), pts(40, 40, 50, 40, 50, 50))},
	}
}

func TestP27_3Fields(t *testing.T) {
	atPlace, onLine, onArea := box(5, 6, 5, 6), box(1, 2, 4, 9), box(10, 10, 50, 50)
	for _, x := range []struct {
		name   string
		change func(l *api.Level)
		want   []api.Box
	}{
		{"nothing", func(l *api.Level) {}, nil},
		{"the zoom", func(l *api.Level) { l.Zoom = 4 }, nil},
		{"the ID of a place", func(l *api.Level) { l.Places[0].ID = 2 }, []api.Box{atPlace, atPlace}},
		{"the point of a place", func(l *api.Level) { l.Places[0].At = at(9, 2) }, []api.Box{atPlace, box(9, 2, 9, 2)}},
		{"the tags of a place", func(l *api.Level) { l.Places[0].Tags[0].Val = "town" }, []api.Box{atPlace, atPlace}},
		{"a further tag of a place", func(l *api.Level) { l.Places[0].Tags = tagList("place", "city", "x", "y") }, []api.Box{atPlace, atPlace}},
		{"no place", func(l *api.Level) { l.Places = nil }, []api.Box{atPlace}},
		{"a further place", func(l *api.Level) { l.Places = append(l.Places, place(7, 0, 32767)) }, []api.Box{box(0, 32767, 0, 32767)}},
		{"the place twice", func(l *api.Level) { l.Places = append(l.Places, l.Places[0]) }, nil},
		{"a further place with the ID", func(l *api.Level) { l.Places = append(l.Places, place(1, 3, 3)) }, []api.Box{box(3, 3, 3, 3)}},
		{"a place that is not on the grid", func(l *api.Level) { l.Places[0].At = at(32768, 5) }, []api.Box{atPlace}},
		{"the ID of a line", func(l *api.Level) { l.Lines[0].ID = 1 }, []api.Box{onLine, onLine}},
		{"the points of a line", func(l *api.Level) { l.Lines[0].Pts[1] = at(7, 3) }, []api.Box{onLine, box(1, 3, 7, 9)}},
		{"the order of a line", func(l *api.Level) { slices.Reverse(l.Lines[0].Pts) }, []api.Box{onLine, onLine}},
		{"the nodes of a line", func(l *api.Level) { l.Lines[0].Nodes[1]++ }, []api.Box{onLine, onLine}},
		{"fewer nodes of a line", func(l *api.Level) { l.Lines[0].Nodes = nil }, []api.Box{onLine, onLine}},
		{"the tags of a line", func(l *api.Level) { l.Lines[0].Tags = nil }, []api.Box{onLine, onLine}},
		{"a line without points", func(l *api.Level) { l.Lines[0].Pts = nil }, []api.Box{onLine}},
		{"a line that leaves the grid", func(l *api.Level) { l.Lines[0].Pts[0].X = -1 }, []api.Box{onLine}},
		{"no line", func(l *api.Level) { l.Lines = nil }, []api.Box{onLine}},
		{"the kind of an area", func(l *api.Level) { l.Areas[0].Ref.Kind = api.KRel }, []api.Box{onArea, onArea}},
		{"the ID of an area", func(l *api.Level) { l.Areas[0].Ref.ID = 1 }, []api.Box{onArea, onArea}},
		{"the theme of an area", func(l *api.Level) { l.Areas[0].Theme = api.Water }, []api.Box{onArea, onArea}},
		{"the tags of an area", func(l *api.Level) { l.Areas[0].Tags[0].Key = "natural" }, []api.Box{onArea, onArea}},
		{"the second ring of an area", func(l *api.Level) { l.Areas[0].Rings[1][1].X = 60 }, []api.Box{onArea, box(10, 10, 60, 50)}},
		{"no second ring of an area", func(l *api.Level) { l.Areas[0].Rings = l.Areas[0].Rings[:1] }, []api.Box{onArea, box(10, 10, 20, 30)}},
		{"the order of rings", func(l *api.Level) { slices.Reverse(l.Areas[0].Rings) }, []api.Box{onArea, onArea}},
		{"an area that leaves the grid", func(l *api.Level) { l.Areas[0].Rings[1][2].Y = 32768 }, []api.Box{onArea}},
		{"an area without rings", func(l *api.Level) { l.Areas[0].Rings = nil }, []api.Box{onArea}},
		{"an area with empty rings", func(l *api.Level) { l.Areas[0].Rings = make([][]api.Point, 2) }, []api.Box{onArea}},
		{"no feature", func(l *api.Level) { *l = api.Level{Zoom: 3} }, []api.Box{atPlace, onLine, onArea}},
	} {
		a, b := sample(), sample()
		x.change(&b)
		if got := Changed(a, b); !slices.Equal(got, x.want) {
			t.Errorf("with %s Changed is %v, not %v", x.name, got, x.want)
		}
		same := x.name == "nothing"
		if Same(a, b) != same || Same(b, a) != same {
			t.Errorf("with %s Same is not %v", x.name, same)
		}
	}
}

func TestP27_3Empty(t *testing.T) {
	a := api.Level{Places: []api.Place{{ID: 1}}, Lines: []api.Line{{ID: 1}}, Areas: []api.Area{{Rings: [][]api.Point{nil}}}}
	b := api.Level{
		Places: []api.Place{{ID: 1, Tags: []api.Tag{}}},
		Lines:  []api.Line{{ID: 1, Pts: []api.Point{}, Nodes: []int{}, Tags: []api.Tag{}}},
		Areas:  []api.Area{{Tags: []api.Tag{}, Rings: [][]api.Point{{}}}},
	}
	if got := Changed(a, b); len(got) != 0 || !Same(a, b) {
		t.Errorf("lists that are empty instead of nil change %v", got)
	}
	none := api.Level{Places: []api.Place{}, Lines: []api.Line{}, Areas: []api.Area{}}
	if got := Changed(none, api.Level{}); len(got) != 0 || !Same(none, api.Level{}) || !Same(api.Level{}, none) {
		t.Errorf("levels without features differ in %v", got)
	}
}

// The boxes are listed by kind, then by level, then in the order of the features, each as often as the feature occurs.
func TestP27_3Order(t *testing.T) {
	a := api.Level{
		Places: []api.Place{place(9, 9, 0), place(3, 3, 0), place(5, 5, 5), place(9, 9, 0)},
		Lines:  []api.Line{line(8, nil, 8, 0, 9, 0), line(7, nil, 7, 0, 9, 0)},
		Areas:  []api.Area{area(3, 2, 1, nil, pts(2, 0, 4, 1, 2, 1)), area(2, 1, 1, nil, pts(1, 0, 4, 1, 2, 1))},
	}
	b := api.Level{
		Places: []api.Place{place(4, 4, 0), place(5, 5, 5), place(2, 2, 0)},
		Lines:  []api.Line{line(6, nil, 6, 0, 9, 0), line(1, nil, 1, 0, 9, 0)},
		Areas:  []api.Area{area(3, 2, 2, nil, pts(2, 0, 4, 1, 2, 3))},
	}
	want := []api.Box{
		box(9, 0, 9, 0), box(3, 0, 3, 0), box(9, 0, 9, 0), box(4, 0, 4, 0), box(2, 0, 2, 0),
		box(8, 0, 9, 0), box(7, 0, 9, 0), box(6, 0, 9, 0), box(1, 0, 9, 0),
		box(2, 0, 4, 1), box(1, 0, 4, 1), box(2, 0, 4, 3),
	}
	if got := Changed(a, b); !slices.Equal(got, want) {
		t.Errorf("Changed is %v, not %v", got, want)
	}
}

// changedBySearch compares every feature with every other one.
func changedBySearch(a, b api.Level) (out []api.Box) {
	note := func(found bool, l []api.Point) {
		if b := boxOf(l); !found && len(l) > 0 && b.X0 >= 0 && b.Y0 >= 0 && b.X1 < api.Side && b.Y1 < api.Side {
			out = append(out, b)
		}
	}
	both := [2][2]api.Level{{a, b}, {b, a}}
	for _, x := range both {
		for _, p := range x[0].Places {
			note(slices.ContainsFunc(x[1].Places, func(q api.Place) bool { return reflect.DeepEqual(p, q) }), []api.Point{p.At})
		}
	}
	for _, x := range both {
		for _, p := range x[0].Lines {
			note(slices.ContainsFunc(x[1].Lines, func(q api.Line) bool { return reflect.DeepEqual(p, q) }), p.Pts)
		}
	}
	for _, x := range both {
		for _, p := range x[0].Areas {
			note(slices.ContainsFunc(x[1].Areas, func(q api.Area) bool { return reflect.DeepEqual(p, q) }), slices.Concat(p.Rings...))
		}
	}
	return out
}

func TestP27_3Search(t *testing.T) {
	r := rand.New(rand.NewSource(5))
	some := func() (l api.Level) {
		point := func() api.Point { return at(r.Intn(3)-r.Intn(8)/7, r.Intn(2)) }
		tags := func() []api.Tag { return [][]api.Tag{nil, nil, tagList("a", "b")}[r.Intn(3)] }
		for range r.Intn(6) {
			l.Places = append(l.Places, api.Place{ID: r.Intn(2), At: point(), Tags: tags()})
		}
		for range r.Intn(6) {
			l.Lines = append(l.Lines, api.Line{ID: r.Intn(2), Pts: []api.Point{point()}, Nodes: []int{r.Intn(2)}, Tags: tags()})
		}
		for range r.Intn(6) {
			l.Areas = append(l.Areas, area(2+r.Intn(2), 1, r.Intn(2), tags(), []api.Point{point()}))
		}
		return l
	}
	for range 5000 {
		a, b := some(), some()
		if got, want := Changed(a, b), changedBySearch(a, b); !slices.Equal(got, want) {
			t.Fatalf("Changed(%v, %v) is %v, not %v", a, b, got, want)
		}
		if Same(a, b) != equal(a, b) || !Same(a, a) {
			t.Fatalf("Same(%v, %v) is %v", a, b, Same(a, b))
		}
	}
}

// The objects that differ between two datasets are what Changed finds, and what touches them.
func TestP27_3OfDatasets(t *testing.T) {
	a := square("landuse", "farm")
	b := square("landuse", "farm")
	b.Nodes[2] = node(3, 112, 111)
	for zoom := range api.MaxZoom + 1 {
		var want []api.Box
		if zoom >= 2 {
			want = []api.Box{box(100, 100, 110, 110), box(100, 100, 112, 111)}
		}
		if got := Changed(build(t, a, zoom), build(t, b, zoom)); !slices.Equal(got, want) {
			t.Errorf("zoom %d: Changed is %v, not %v", zoom, got, want)
		}
		if got := Changed(build(t, a, zoom), build(t, a, zoom)); len(got) != 0 || !Same(build(t, b, zoom), build(t, b, zoom)) {
			t.Errorf("zoom %d: Changed of one dataset is %v", zoom, got)
		}
	}
}

func TestP27_Aliasing(t *testing.T) {
	d, fresh := patchwork(rand.New(rand.NewSource(6))), patchwork(rand.New(rand.NewSource(6)))
	levels := []api.Level{build(t, d, 2), build(t, d, 7)}
	if !reflect.DeepEqual(d, fresh) {
		t.Fatal("Build changes its argument")
	}
	for _, n := range d.Nodes {
		clear(n.Tags)
	}
	for _, w := range d.Ways {
		clear(w.Tags)
		clear(w.Nodes)
	}
	for _, x := range d.Rels {
		clear(x.Tags)
		clear(x.Members)
	}
	clear(d.Nodes)
	for i, zoom := range []int{2, 7} {
		if !equal(levels[i], build(t, fresh, zoom)) {
			t.Errorf("the level of zoom %d shares memory with the dataset", zoom)
		}
	}
	a, b := sample(), sample()
	b.Lines[0].Pts[0] = at(0, 0)
	a.Lines, b.Areas = append(a.Lines, line(5, nil, 1, 1, 2, 2))[:1], append(b.Areas, sample().Areas...)[:1]
	Changed(a, b)
	Same(a, b)
	if !equal(a, sample()) || !slices.Equal(a.Lines[:2][1].Pts, pts(1, 1, 2, 2)) || !reflect.DeepEqual(b.Areas[:2], append(sample().Areas, sample().Areas...)) {
		t.Error("a level is changed by comparing it")
	}
}
