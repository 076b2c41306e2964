package level

import (
	"math"
	"math/rand"
	"reflect"
	"slices"
	"strings"
	"testing"

	"mapmaker/api"
	"mapmaker/areas"
	"mapmaker/classify"
	"mapmaker/data"
	"mapmaker/generalize"
	"mapmaker/grid"
	"mapmaker/mesh"
	"mapmaker/normal"
	"mapmaker/render"
	"mapmaker/simplify"
	"mapmaker/tilegrid"
)

func at(x, y int) api.Point { return api.Point{X: x, Y: y} }

// pts returns the points whose X and Y are given in turn.
func pts(l ...int) (out []api.Point) {
	for i := 0; i < len(l); i += 2 {
		out = append(out, at(l[i], l[i+1]))
	}
	return out
}

// tagList returns the tags whose keys and values are given in turn, in the order of the keys.
func tagList(l ...string) (out []api.Tag) {
	for i := 0; i < len(l); i += 2 {
		out = append(out, api.Tag{Key: l[i], Val: l[i+1]})
	}
	slices.SortFunc(out, func(a, b api.Tag) int { return strings.Compare(a.Key, b.Key) })
	return out
}

func node(id, x, y int, tags ...string) api.Node {
	c, _ := grid.Center(at(x, y))
	return api.Node{ID: id, At: c, Tags: tagList(tags...)}
}

func way(id int, tags []api.Tag, nodes ...int) api.Way {
	return api.Way{ID: id, Nodes: nodes, Tags: tags}
}

// rel returns a multipolygon with these ways.
func rel(id int, tags []api.Tag, ways ...int) api.Rel {
	out := api.Rel{ID: id, Tags: append(slices.Clone(tags), api.Tag{Key: "type", Val: "multipolygon"})}
	for _, w := range ways {
		out.Members = append(out.Members, api.Member{Ref: api.Ref{Kind: api.KWay, ID: w}})
	}
	return out
}

func build(t *testing.T, d api.Data, zoom int) api.Level {
	t.Helper()
	l, err := Build(d, zoom)
	if err != api.OK || l.Zoom != zoom {
		t.Fatalf("Build at zoom %d returns %v, %d", zoom, l, err)
	}
	return l
}

// square is a dataset with the nodes of a square, 1 to 4, and a way around it.
func square(tags ...string) api.Data {
	return api.Data{
		Nodes: []api.Node{node(1, 100, 100), node(2, 110, 100), node(3, 110, 110), node(4, 100, 110)},
		Ways:  []api.Way{way(5, tagList(tags...), 1, 2, 3, 4, 1)},
	}
}

// equal compares levels field by field. No list of theirs is empty without being nil, or the other way round, that matters.
func equal(a, b api.Level) bool {
	list := func(n int) bool { return n > 0 }
	if list(len(a.Places)) != list(len(b.Places)) || list(len(a.Lines)) != list(len(b.Lines)) || list(len(a.Areas)) != list(len(b.Areas)) {
		return false
	}
	return a.Zoom == b.Zoom &&
		(len(a.Places) == 0 || reflect.DeepEqual(a.Places, b.Places)) &&
		(len(a.Lines) == 0 || reflect.DeepEqual(a.Lines, b.Lines)) &&
		(len(a.Areas) == 0 || reflect.DeepEqual(a.Areas, b.Areas))
}

var limits = [8]int{16383, 4095, 1023, 255, 63, 15, 3, 0}

func TestP27_1(t *testing.T) {
	for zoom, want := range limits {
		if got := Limit(zoom); got != want {
			t.Errorf("Limit(%d) is %d, not %d", zoom, got, want)
		}
	}
	for _, zoom := range []int{-1, 8, -64, 64, math.MinInt, math.MaxInt} {
		if got := Limit(zoom); got != -1 {
			t.Errorf("Limit(%d) is %d", zoom, got)
		}
	}
}

func TestP27_2Examples(t *testing.T) {
	whole, part := pts(100, 100, 110, 100, 110, 110, 100, 110), pts(100, 110, 110, 100, 110, 110)
	for zoom := range api.MaxZoom + 1 {
		want := api.Level{Zoom: zoom}
		if zoom >= 2 {
			rings := [][]api.Point{whole}
			// Each corner has the size 100.
			if zoom <= 3 {
				rings = [][]api.Point{part}
			}
			want.Areas = []api.Area{{Ref: api.Ref{Kind: api.KWay, ID: 5}, Theme: api.Land, Tags: tagList("landuse", "farm"), Rings: rings}}
		}
		if got := build(t, square("landuse", "farm"), zoom); !equal(got, want) {
			t.Errorf("zoom %d: the level is %v, not %v", zoom, got, want)
		}
	}
}

func TestP27_2Errors(t *testing.T) {
	broken := square()
	broken.Ways[0].Nodes[0] = 9
	for _, x := range []struct {
		d    api.Data
		zoom int
		want api.Errno
	}{
		{api.Data{}, -1, api.ErrRange}, {api.Data{}, 8, api.ErrRange}, {square("landuse", "farm"), math.MaxInt, api.ErrRange}, {square("landuse", "farm"), math.MinInt, api.ErrRange},
		{broken, 0, api.ErrRef}, {broken, 8, api.ErrRef}, {broken, -1, api.ErrRef}, {api.Data{Nodes: []api.Node{{ID: 1, Tags: tagList("", "x")}}}, 9, api.ErrTag}, {api.Data{Nodes: []api.Node{{ID: 2}, {ID: 2}}}, 9, api.ErrOrder},
	} {
		if l, err := Build(x.d, x.zoom); err != x.want || !equal(l, api.Level{}) {
			t.Errorf("Build(%v, %d) returns %v, %d, not %d", x.d, x.zoom, l, err, x.want)
		}
	}
	for zoom := range api.MaxZoom + 1 {
		if l := build(t, api.Data{}, zoom); !equal(l, api.Level{Zoom: zoom}) {
			t.Errorf("the level of nothing is %v", l)
		}
	}
}

// kinds returns of which kinds the level has features, each once.
func kinds(l api.Level) string {
	out := ""
	for _, x := range []struct {
		n    int
		name string
	}{{len(l.Places), "P"}, {len(l.Lines), "L"}, {len(l.Areas), "A"}} {
		if x.n > 0 {
			out += x.name
		}
	}
	return out
}

func TestP27_2Selection(t *testing.T) {
	closed, open := []int{1, 2, 3, 4, 1}, []int{1, 2, 3, 4}
	for _, x := range []struct {
		nodes []int // of the way with the tags; of the node 9 if there are none
		tags  []api.Tag
		kinds string
		from  int // the smallest zoom
	}{
		{nil, tagList("place", "city"), "P", 0}, {nil, tagList("place", "town"), "P", 3}, {nil, tagList("place", "village"), "P", 5}, {nil, tagList("place", "x"), "P", 6},
		{nil, tagList("name", "x"), "", 0}, {nil, tagList("highway", "motorway"), "", 0}, {nil, tagList("boundary", "x"), "", 0}, {nil, tagList("building", "yes", "place", "city"), "", 0}, {nil, nil, "", 0},
		{open, tagList("highway", "motorway"), "L", 0}, {open, tagList("highway", "primary"), "L", 2}, {open, tagList("highway", "secondary"), "L", 4}, {open, tagList("highway", "residential"), "L", 5}, {open, tagList("highway", "track"), "L", 5}, {open, tagList("route", "ferry"), "L", 5}, {open, tagList("boundary", "x"), "L", 0},
		{closed, tagList("highway", "motorway"), "L", 0}, {closed, tagList("highway", "primary", "area", "yes"), "L", 2}, {closed, tagList("boundary", "x"), "L", 0}, {closed, tagList("boundary", "x", "area", "no"), "L", 0},
		{closed, tagList("boundary", "x", "area", "yes"), "A", 0}, {open, tagList("boundary", "x", "area", "yes"), "", 0}, {closed, tagList("boundary", "x", "area", "yes", "highway", "primary"), "L", 2},
		{closed, tagList("natural", "water"), "A", 0}, {closed, tagList("landuse", "x"), "A", 2}, {closed, tagList("building", "x"), "A", 6}, {closed, tagList("landuse", "x", "building", "x", "highway", "motorway"), "A", 6},
		{closed, tagList("natural", "water", "area", "no"), "", 0}, {closed, tagList("landuse", "x", "area", "no"), "", 0}, {open, tagList("natural", "water"), "", 0}, {open, tagList("building", "x"), "", 0}, {open, tagList("landuse", "x", "highway", "motorway"), "", 0},
		{closed, tagList("place", "city"), "", 0}, {open, tagList("place", "city"), "", 0}, {closed, tagList("name", "x"), "", 0}, {open, nil, "", 0}, {[]int{1, 1}, tagList("highway", "motorway"), "", 0}, {[]int{1, 2, 1}, tagList("natural", "water"), "", 0}, {[]int{1, 2, 1}, tagList("highway", "motorway"), "L", 0},
	} {
		d := square()
		d.Ways = nil
		if x.nodes == nil {
			d.Nodes = append(d.Nodes, api.Node{ID: 9, Tags: x.tags})
		} else {
			d.Ways = []api.Way{way(9, x.tags, x.nodes...)}
		}
		for zoom := range api.MaxZoom + 1 {
			want := x.kinds
			if zoom < x.from {
				want = ""
			}
			if got := kinds(build(t, d, zoom)); got != want {
				t.Errorf("zoom %d: the level of %v with the tags %v has %q, not %q", zoom, x.nodes, x.tags, got, want)
			}
		}
	}
}

// Features that are not selected keep no point of others, and areas of other themes do not either.
func TestP27_2SelectedOnly(t *testing.T) {
	d := api.Data{
		Nodes: []api.Node{node(1, 100, 100), node(2, 110, 101), node(3, 120, 100), node(4, 110, 120)},
		Ways:  []api.Way{way(1, tagList("highway", "primary"), 1, 2, 3), way(2, tagList("highway", "track"), 2, 4)},
	}
	points := func(zoom int) int { return len(build(t, d, zoom).Lines[0].Pts) }
	// The size of the point in the middle is 20.
	if points(4) != 2 || points(5) != 3 || points(2) != 2 {
		t.Error("the crossing with a road that appears later is not removed, or not kept later")
	}
	d.Ways[1].Tags = tagList("boundary", "x")
	if points(2) != 3 || len(build(t, d, 2).Lines[1].Pts) != 2 {
		t.Error("the common point of a road and a border is removed")
	}
	d.Ways[1].Tags = tagList("boundary", "x", "area", "yes")
	if points(2) != 2 {
		t.Error("the common point of a road and an area is kept")
	}
	// Two triangles with one outline and different themes, and a third one whose corner is on it.
	d = api.Data{
		Nodes: []api.Node{node(1, 100, 100), node(2, 130, 100), node(3, 115, 100), node(4, 115, 130), node(5, 110, 90), node(6, 120, 90)},
		Ways: []api.Way{
			way(1, tagList("natural", "water"), 1, 2, 4, 1), way(2, tagList("landuse", "x"), 3, 6, 5, 3), way(3, tagList("landuse", "x"), 1, 2, 4, 1),
		},
	}
	for _, x := range []struct {
		zoom int
		want []int // the numbers of points of the areas
	}{{1, []int{3}}, {2, []int{3, 3, 3}}, {6, []int{3, 3, 4}}, {7, []int{3, 3, 4}}} {
		var got []int
		for _, a := range build(t, d, x.zoom).Areas {
			got = append(got, len(a.Rings[0]))
		}
		if !slices.Equal(got, x.want) {
			t.Errorf("zoom %d: the areas have %v points, not %v", x.zoom, got, x.want)
		}
	}
}

// Areas that cross one of their theme before are missing, and so are those without a boundary.
func TestP27_2Planar(t *testing.T) {
	d := square()
	d.Nodes = append(d.Nodes, node(5, 105, 105), node(6, 120, 105), node(7, 120, 108))
	first, second := []int{1, 2, 3, 4, 1}, []int{5, 6, 7, 5}
	for _, x := range []struct {
		a, b string
		want int
	}{{"landuse", "landuse", 1}, {"natural", "natural", 1}, {"landuse", "natural", 2}, {"natural", "building", 2}} {
		d.Ways = []api.Way{way(1, tagList(x.a, "water"), first...), way(2, tagList(x.b, "water"), second...)}
		l := build(t, d, 7)
		if len(l.Areas) != x.want || l.Areas[0].Ref.ID != 1 {
			t.Errorf("of two crossing areas %s and %s %v remain", x.a, x.b, l.Areas)
		}
	}
	d.Ways = []api.Way{way(1, tagList("landuse", "x"), 1, 2, 1, 2, 1), way(2, tagList("landuse", "x"), second...)}
	d.Rels = []api.Rel{rel(1, tagList("landuse", "x"), 2, 2), rel(2, tagList("landuse", "x"), 2)}
	if l := build(t, d, 7); len(l.Areas) != 2 || l.Areas[0].Ref != (api.Ref{Kind: api.KWay, ID: 2}) || l.Areas[1].Ref != (api.Ref{Kind: api.KRel, ID: 2}) {
		t.Errorf("the areas are %v", l.Areas)
	}
}

// cells is the number of cells of a patchwork in a row.
const cells = 4

// patchwork returns a dataset with the uneven sides of cells as ways, with areas that consist of some cells, some of which are closed ways, and with roads and places.
func patchwork(r *rand.Rand) api.Data {
	var d api.Data
	put := func(x, y int, tags ...string) int {
		d.Nodes = append(d.Nodes, node(len(d.Nodes)+1, 200+x+r.Intn(5)-2, 200+y+r.Intn(5)-2, tags...))
		return len(d.Nodes)
	}
	link := func(tags []api.Tag, nodes ...int) int {
		d.Ways = append(d.Ways, way(len(d.Ways)+1, tags, nodes...))
		return len(d.Ways)
	}
	const step = 12
	var corners [cells + 1][cells + 1]int
	for i := range cells + 1 {
		for j := range cells + 1 {
			corners[i][j] = put(i*step, j*step)
		}
	}
	var across, along [cells + 1][cells + 1]int // the sides from a corner to the next one
	for i := range cells + 1 {
		for j := range cells + 1 {
			if i < cells {
				across[i][j] = link(someCourse(r), corners[i][j], put(i*step+4, j*step), put(i*step+8, j*step), corners[i+1][j])
			}
			if j < cells {
				along[i][j] = link(someCourse(r), corners[i][j], put(i*step, j*step+6), corners[i][j+1])
			}
		}
	}
	for i := range cells {
		for j := range cells {
			switch r.Intn(4) {
			case 0:
				link(someSurface(r), around(d, across[i][j], along[i+1][j], across[i][j+1], along[i][j])...)
			case 1:
				put(i*step, j*step, "place", []string{"city", "town", "village", "x"}[r.Intn(4)])
			case 2:
				link(someCourse(r), corners[i][j], put(i*step+6, j*step+6), corners[i+1][j+1])
			}
		}
	}
	for id := range 1 + r.Intn(7) {
		var members []int
		x0, y0 := r.Intn(cells), r.Intn(cells)
		x1, y1 := x0+1+r.Intn(cells-x0), y0+1+r.Intn(cells-y0)
		for i := x0; i < x1; i++ {
			for j := y0; j < y1; j++ {
				if r.Intn(6) > 0 {
					members = append(members, across[i][j], along[i+1][j], across[i][j+1], along[i][j])
				}
			}
		}
		d.Rels = append(d.Rels, rel(id+1, someSurface(r), members...))
	}
	return d
}

// around returns the nodes of a closed way along four sides, the last two of which have the other direction.
func around(d api.Data, first, second, third, fourth int) []int {
	out := slices.Concat(d.Ways[first-1].Nodes, d.Ways[second-1].Nodes[1:])
	for _, id := range []int{third, fourth} {
		back := slices.Clone(d.Ways[id-1].Nodes)
		slices.Reverse(back)
		out = append(out, back[1:]...)
	}
	return out
}

func someSurface(r *rand.Rand) []api.Tag {
	return [][]api.Tag{tagList("natural", "water"), tagList("natural", "water"), tagList("landuse", "x"), tagList("landuse", "x"), tagList("building", "x"), tagList("area", "yes", "boundary", "x"), tagList("area", "no", "landuse", "x")}[r.Intn(7)]
}

func someCourse(r *rand.Rand) []api.Tag {
	return [][]api.Tag{nil, nil, tagList("highway", "primary"), tagList("highway", "track"), tagList("boundary", "x"), tagList("route", "ferry"), tagList("area", "yes", "boundary", "x")}[r.Intn(7)]
}

// described is the level by the description: one object after the other, and one step of each simplification after the other.
func described(d api.Data, zoom int) api.Level {
	out := api.Level{Zoom: zoom}
	for _, p := range normal.Places(d) {
		if classify.MinZoom(p.Tags) <= zoom {
			out.Places = append(out.Places, p)
		}
	}
	var lines []api.Line
	var all []api.Area
	for _, w := range d.Ways {
		theme := classify.Theme(w.Tags)
		x, ok := normal.Line(d, w)
		if ok && (theme == api.Road || theme == api.Border) && !classify.IsArea(w.Tags) && classify.MinZoom(w.Tags) <= zoom {
			lines = append(lines, x)
		}
	}
	for _, r := range data.Refs(d) {
		if a, err := areas.One(d, r); err == api.OK {
			all = append(all, a)
		}
	}
	fixed := generalize.Fixed(lines)
	for _, x := range lines {
		out.Lines = append(out.Lines, generalize.Line(x, fixed, limits[zoom]))
	}
	planar, _ := areas.Planar(all)
	for _, a := range planar {
		if classify.MinZoom(a.Tags) <= zoom {
			out.Areas = append(out.Areas, a)
		}
	}
	for theme := range 7 {
		thinned(out.Areas, theme, limits[zoom])
	}
	return out
}

// ofTheme returns the areas with that theme and where they are in the list.
func ofTheme(l []api.Area, theme int) (own []api.Area, positions []int) {
	for i, a := range l {
		if a.Theme == theme {
			own, positions = append(own, a), append(positions, i)
		}
	}
	return own, positions
}

func thinned(l []api.Area, theme, limit int) {
	own, positions := ofTheme(l, theme)
	m, err := mesh.OfAreas(own)
	if err != api.OK {
		panic(err)
	}
	for again := true; again; {
		m, again = simplify.Step(m, limit)
	}
	for i, position := range positions {
		l[position].Rings = mesh.Rings(m, i)
	}
}

func TestP27_2ByDescription(t *testing.T) {
	r := rand.New(rand.NewSource(1))
	var counts [3]int
	for range 12 {
		d := patchwork(r)
		for zoom := range api.MaxZoom + 1 {
			got, want := build(t, d, zoom), described(d, zoom)
			if !equal(got, want) {
				t.Fatalf("zoom %d: the level of %v is %v, not %v", zoom, d, got, want)
			}
			counts[0] += len(got.Places)
			counts[1] += len(got.Lines)
			counts[2] += len(got.Areas)
		}
	}
	if slices.Min(counts[:]) < 100 {
		t.Errorf("there are %v features only", counts)
	}
}

// relations returns which areas of a theme are adjacent and which contain each other, by their references.
func relations(t *testing.T, l []api.Area, theme int) (adjacent, contain map[[2]api.Ref]bool) {
	t.Helper()
	own, _ := ofTheme(l, theme)
	m, err := mesh.OfAreas(own)
	if err != api.OK || mesh.Check(m) != api.OK {
		t.Fatalf("the areas %v have no mesh: %d", own, err)
	}
	byRef := func(pairs [][2]int) map[[2]api.Ref]bool {
		out := map[[2]api.Ref]bool{}
		for _, p := range pairs {
			out[[2]api.Ref{own[p[0]].Ref, own[p[1]].Ref}] = true
		}
		return out
	}
	return byRef(mesh.Adjacent(m)), byRef(mesh.Contains(m))
}

// P3 of DOC.md.
func TestP27_4Topology(t *testing.T) {
	r := rand.New(rand.NewSource(2))
	pairs, fewer := 0, 0
	for range 60 {
		d := patchwork(r)
		last := build(t, d, api.MaxZoom)
		for zoom := range api.MaxZoom {
			l := build(t, d, zoom)
			for theme := range 7 {
				own, _ := ofTheme(l.Areas, theme)
				all, _ := ofTheme(last.Areas, theme)
				if len(own) == 0 {
					continue
				}
				if !slices.EqualFunc(own, all, func(a, b api.Area) bool { return a.Ref == b.Ref && len(a.Rings) == len(b.Rings) }) {
					t.Fatalf("zoom %d has the areas %v, not %v", zoom, own, all)
				}
				adjacent, contain := relations(t, l.Areas, theme)
				wantAdjacent, wantContain := relations(t, last.Areas, theme)
				if !reflect.DeepEqual(adjacent, wantAdjacent) || !reflect.DeepEqual(contain, wantContain) {
					t.Fatalf("zoom %d: %v are adjacent and %v contain each other, not %v and %v", zoom, adjacent, contain, wantAdjacent, wantContain)
				}
				pairs += len(adjacent) + len(contain)
				for i, a := range own {
					fewer += len(slices.Concat(all[i].Rings...)) - len(slices.Concat(a.Rings...))
				}
			}
		}
	}
	if pairs < 500 || fewer < 5000 {
		t.Errorf("only %d pairs of areas touch, and %d points are removed", pairs, fewer)
	}
}

// Example 1 of DOC.md: the common side of two areas has the same points in both.
func TestP27_4CommonSide(t *testing.T) {
	d := api.Data{
		Nodes: []api.Node{node(1, 100, 100), node(2, 140, 100), node(3, 140, 140), node(4, 121, 125), node(5, 119, 115), node(6, 100, 140), node(7, 160, 120)},
		Ways:  []api.Way{way(1, tagList("landuse", "farm"), 1, 2, 5, 4, 3, 6, 1), way(2, tagList("landuse", "farm"), 2, 7, 3, 4, 5, 2)},
	}
	for zoom := 2; zoom <= api.MaxZoom; zoom++ {
		l := build(t, d, zoom)
		m, err := mesh.OfAreas(l.Areas)
		if err != api.OK || !slices.Equal(mesh.Adjacent(m), [][2]int{{0, 1}}) {
			t.Errorf("zoom %d: the areas %v are not adjacent", zoom, l.Areas)
		}
		side := func(a api.Area) (out []api.Point) {
			for _, p := range a.Rings[0] {
				if p.X > 110 && p.X < 150 {
					out = append(out, p)
				}
			}
			slices.SortFunc(out, func(p, q api.Point) int { return p.Y - q.Y })
			return out
		}
		if !slices.Equal(side(l.Areas[0]), side(l.Areas[1])) {
			t.Errorf("zoom %d: the common sides of %v differ", zoom, l.Areas)
		}
	}
}

// P2 of DOC.md: the areas depend only on the segments.
func TestP27_4Segments(t *testing.T) {
	r := rand.New(rand.NewSource(3))
	for range 15 {
		d := patchwork(r)
		d.Ways = slices.DeleteFunc(d.Ways, func(w api.Way) bool { return normal.Closed(w) })
		other := api.Data{Nodes: d.Nodes}
		// Each way is divided, and its parts have any direction.
		parts := map[int][]int{}
		for _, w := range d.Ways {
			cut := 1 + r.Intn(len(w.Nodes)-1)
			for _, l := range [][]int{w.Nodes[:cut+1], w.Nodes[cut:]} {
				if len(l) < 2 {
					continue
				}
				l = slices.Clone(l)
				if r.Intn(2) == 0 {
					slices.Reverse(l)
				}
				id := len(other.Ways) + 1
				other.Ways, parts[w.ID] = append(other.Ways, way(id, w.Tags, l...)), append(parts[w.ID], id)
			}
		}
		for _, x := range d.Rels {
			var ways []int
			for _, m := range x.Members {
				ways = append(ways, parts[m.Ref.ID]...)
			}
			r.Shuffle(len(ways), func(i, j int) { ways[i], ways[j] = ways[j], ways[i] })
			ways = ways[:min(len(ways), api.MaxMember)]
			other.Rels = append(other.Rels, rel(x.ID, x.Tags[:len(x.Tags)-1], ways...))
		}
		for zoom := range api.MaxZoom + 1 {
			a, b := build(t, d, zoom), build(t, other, zoom)
			if !equal(api.Level{Areas: a.Areas}, api.Level{Areas: b.Areas}) {
				t.Fatalf("zoom %d: with other ways the areas %v become %v", zoom, a.Areas, b.Areas)
			}
		}
	}
}

// boxOf returns the smallest and the greatest coordinates.
func boxOf(l []api.Point) api.Box {
	b := api.Box{X0: math.MaxInt, Y0: math.MaxInt, X1: math.MinInt, Y1: math.MinInt}
	for _, p := range l {
		b = api.Box{X0: min(b.X0, p.X), Y0: min(b.Y0, p.Y), X1: max(b.X1, p.X), Y1: max(b.Y1, p.Y)}
	}
	return b
}

// P4 of DOC.md: a tile holds only features that meet it.
func TestP27_4Tiles(t *testing.T) {
	r := rand.New(rand.NewSource(4))
	for range 3 {
		d := patchwork(r)
		for zoom := range api.MaxZoom + 1 {
			l := build(t, d, zoom)
			boxes := map[api.Ref][]api.Point{}
			for _, p := range l.Places {
				boxes[api.Ref{Kind: api.KNode, ID: p.ID}] = []api.Point{p.At}
			}
			for _, x := range l.Lines {
				boxes[api.Ref{Kind: api.KWay, ID: x.ID}] = x.Pts
			}
			for _, a := range l.Areas {
				boxes[a.Ref] = slices.Concat(a.Rings...)
			}
			for _, tile := range render.Tiles(l) {
				box, _ := tilegrid.Box(tile)
				for _, layer := range render.Layers(l, tile) {
					for _, f := range layer.Features {
						if b := boxOf(boxes[f.Ref]); b.X0 > box.X1 || box.X0 > b.X1 || b.Y0 > box.Y1 || box.Y0 > b.Y1 {
							t.Fatalf("the tile %v has the feature %v, whose box is %v", tile, f, b)
						}
					}
				}
			}
		}
	}
}
