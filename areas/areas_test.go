package areas

import (
	"math"
	"math/rand"
	"slices"
	"strconv"
	"testing"

	"mapmaker/api"
	"mapmaker/grid"
	"mapmaker/noding"
	"mapmaker/trace"
)

func at(x, y int) api.Point { return api.Point{X: x, Y: y} }

// ring returns the points whose X and Y are given in turn.
func ring(l ...int) (out []api.Point) {
	for i := 0; i < len(l); i += 2 {
		out = append(out, at(l[i], l[i+1]))
	}
	return out
}

func tagList(l ...string) (out []api.Tag) {
	for i := 0; i < len(l); i += 2 {
		out = append(out, api.Tag{Key: l[i], Val: l[i+1]})
	}
	return out
}

func way(id int) api.Ref { return api.Ref{Kind: api.KWay, ID: id} }
func rel(id int) api.Ref { return api.Ref{Kind: api.KRel, ID: id} }

// nodes returns nodes with the IDs from 1 on at these grid points.
func nodes(l ...int) (out []api.Node) {
	for i, p := range ring(l...) {
		c, _ := grid.Center(p)
		out = append(out, api.Node{ID: i + 1, At: c})
	}
	return out
}

func members(l ...api.Ref) (out []api.Member) {
	for i, r := range l {
		out = append(out, api.Member{Ref: r, Role: []string{"", "outer", "inner"}[i%3]})
	}
	return out
}

func segOf(a, b api.Point) api.Seg {
	if b.X < a.X || b.X == a.X && b.Y < a.Y {
		a, b = b, a
	}
	return api.Seg{A: a, B: b}
}

func sameRings(a, b [][]api.Point) bool {
	return slices.EqualFunc(a, b, func(x, y []api.Point) bool { return slices.Equal(x, y) })
}

func sameAreas(a, b []api.Area) bool {
	return slices.EqualFunc(a, b, func(x, y api.Area) bool {
		return x.Ref == y.Ref && x.Theme == y.Theme && slices.Equal(x.Tags, y.Tags) && sameRings(x.Rings, y.Rings)
	})
}

var (
	farm  = tagList("landuse", "farm")
	multi = tagList("natural", "water", "type", "multipolygon")
)

// squares is a dataset with the corners of two squares with the side 4-3 in common, nodes 1 to 6, and of a small triangle in the first one, 7 to 9; node 10 is where node 1 is.
func squares() api.Data {
	return api.Data{Nodes: nodes(10, 10, 20, 10, 20, 20, 10, 20, 20, 30, 10, 30, 12, 12, 14, 12, 12, 14, 10, 10)}
}

func TestP23_1Candidates(t *testing.T) {
	closed, open := []int{1, 2, 3, 4, 1}, []int{1, 2, 3, 4}
	for _, x := range []struct {
		name  string
		nodes []int
		tags  []api.Tag
		want  bool
	}{
		{"water", closed, tagList("natural", "water"), true},
		{"a building", closed, tagList("building", "yes"), true},
		{"a farm", closed, farm, true},
		{"a farm that is no area", closed, tagList("area", "no", "landuse", "farm"), false},
		{"a border", closed, tagList("boundary", "x"), false},
		{"the area of a border", closed, tagList("area", "yes", "boundary", "x"), true},
		{"a road", closed, tagList("highway", "primary"), false},
		{"the area of a road", closed, tagList("area", "yes", "highway", "primary"), false},
		{"a settlement", closed, tagList("area", "yes", "place", "city"), false},
		{"no tags", closed, nil, false},
		{"a multipolygon", closed, tagList("type", "multipolygon"), false},
		{"an open way", open, farm, false},
		{"three nodes", []int{1, 2, 1}, farm, false},
		{"four nodes", []int{1, 2, 3, 1}, farm, true},
		{"an end at the same place", []int{1, 2, 3, 10}, farm, false},
		{"one node only", []int{1, 1, 1, 1}, farm, true},
	} {
		d := squares()
		d.Ways = []api.Way{{ID: 5, Nodes: x.nodes, Tags: x.tags}}
		_, ok := Segs(d, way(5))
		_, err := One(d, way(5))
		l, f := All(d)
		if ok != x.want || (err != api.ErrNone) != x.want || (len(l)+len(f) == 1) != x.want {
			t.Errorf("a way with %s is a candidate: %v, %d, %v, %v", x.name, ok, err, l, f)
		}
	}
	for _, x := range []struct {
		name string
		tags []api.Tag
		want bool
	}{
		{"water", multi, true},
		{"a farm", tagList("landuse", "farm", "type", "multipolygon"), true},
		{"a building and others", tagList("building", "yes", "name", "x", "type", "multipolygon"), true},
		{"another type", tagList("natural", "water", "type", "boundary"), false},
		{"a longer type", tagList("natural", "water", "type", "multipolygons"), false},
		{"another key", tagList("natural", "water", "types", "multipolygon"), false},
		{"no type", tagList("natural", "water"), false},
		{"no theme", tagList("type", "multipolygon"), false},
		{"no area", tagList("area", "no", "natural", "water", "type", "multipolygon"), false},
		{"a border", tagList("boundary", "x", "type", "multipolygon"), false},
		{"the area of a border", tagList("area", "yes", "boundary", "x", "type", "multipolygon"), true},
	} {
		d := squares()
		d.Ways = []api.Way{{ID: 5, Nodes: closed}}
		d.Rels = []api.Rel{{ID: 6, Members: members(way(5)), Tags: x.tags}}
		_, ok := Segs(d, rel(6))
		_, err := One(d, rel(6))
		l, f := All(d)
		if ok != x.want || (err == api.OK) != x.want || (len(l) == 1) != x.want || len(f) != 0 {
			t.Errorf("a relation with %s is a candidate: %v, %d, %v, %v", x.name, ok, err, l, f)
		}
	}
}

func TestP23_1Others(t *testing.T) {
	d := squares()
	d.Nodes[4].Tags = farm
	d.Ways = []api.Way{{ID: 5, Nodes: []int{1, 2, 3, 4, 1}, Tags: farm}}
	d.Rels = []api.Rel{{ID: 6, Members: members(way(5)), Tags: multi}}
	bad := d
	bad.Rels = []api.Rel{d.Rels[0], d.Rels[0]}
	for _, r := range []api.Ref{{}, way(6), way(0), rel(5), {Kind: api.KNode, ID: 5}, {Kind: 0, ID: 5}, {Kind: 4, ID: 5}, {Kind: math.MinInt, ID: math.MaxInt}, way(-5)} {
		if l, ok := Segs(d, r); ok || len(l) > 0 {
			t.Errorf("Segs of %v is %v, %v", r, l, ok)
		}
		if a, err := One(d, r); err != api.ErrNone || !sameAreas([]api.Area{a}, []api.Area{{}}) {
			t.Errorf("One of %v is %v, %d", r, a, err)
		}
	}
	for _, r := range []api.Ref{way(5), rel(6)} {
		if l, ok := Segs(bad, r); ok || len(l) > 0 {
			t.Errorf("Segs of %v in a dataset that is not valid is %v, %v", r, l, ok)
		}
		if a, err := One(bad, r); err != api.ErrNone || !sameAreas([]api.Area{a}, []api.Area{{}}) {
			t.Errorf("One of %v in a dataset that is not valid is %v, %d", r, a, err)
		}
	}
	if l, f := All(bad); len(l) > 0 || len(f) > 0 {
		t.Errorf("All of a dataset that is not valid is %v, %v", l, f)
	}
	if l, f := All(api.Data{}); len(l) > 0 || len(f) > 0 {
		t.Errorf("All of an empty dataset is %v, %v", l, f)
	}
}

func TestP23_1Segs(t *testing.T) {
	d := squares()
	d.Ways = []api.Way{
		{ID: 1, Nodes: []int{1, 10, 2, 3, 4, 1}, Tags: farm},
		{ID: 2, Nodes: []int{4, 3, 3, 5}},
		{ID: 3, Nodes: []int{1, 10}},
		{ID: 4, Nodes: []int{1, 10, 1, 1}, Tags: farm},
	}
	d.Rels = []api.Rel{
		{ID: 1, Members: members(way(2), api.Ref{Kind: api.KNode, ID: 1}, way(1), way(3), way(2)), Tags: multi},
		{ID: 2, Tags: multi},
		{ID: 3, Members: members(way(3), api.Ref{Kind: api.KNode, ID: 1}), Tags: multi},
	}
	first := []api.Seg{segOf(at(10, 10), at(20, 10)), segOf(at(20, 10), at(20, 20)), segOf(at(20, 20), at(10, 20)), segOf(at(10, 20), at(10, 10))}
	second := []api.Seg{segOf(at(10, 20), at(20, 20)), segOf(at(20, 20), at(20, 30))}
	for _, x := range []struct {
		r    api.Ref
		want []api.Seg
	}{
		{way(1), first}, {way(4), nil}, {rel(1), slices.Concat(second, first, second)}, {rel(2), nil}, {rel(3), nil},
	} {
		if got, ok := Segs(d, x.r); !ok || !slices.Equal(got, x.want) {
			t.Errorf("Segs of %v is %v, %v, not %v", x.r, got, ok, x.want)
		}
		if _, err := One(d, x.r); len(x.want) == 0 && err != api.ErrEmpty {
			t.Errorf("One of %v without segments returns %d", x.r, err)
		}
	}
}

func TestP23_1One(t *testing.T) {
	d := squares()
	building := tagList("building", "yes", "landuse", "farm", "type", "multipolygon")
	d.Ways = []api.Way{
		{ID: 1, Nodes: []int{1, 2, 3, 4, 1}, Tags: farm},
		{ID: 2, Nodes: []int{4, 3, 5, 6, 4}, Tags: tagList("area", "yes", "boundary", "x")},
		{ID: 3, Nodes: []int{7, 8, 9, 7}},
		{ID: 4, Nodes: []int{1, 3, 2, 4, 1}, Tags: farm}, // crosses itself
		{ID: 5, Nodes: []int{1, 2, 3, 2, 1}, Tags: farm}, // encloses nothing
		{ID: 6, Nodes: []int{1, 2}},
		{ID: 7, Nodes: []int{1, 4, 6}},
		{ID: 8, Nodes: []int{2, 3, 5, 6}},
	}
	d.Rels = []api.Rel{
		{ID: 1, Members: members(way(1), way(2)), Tags: multi},
		{ID: 2, Members: members(way(1), way(3)), Tags: building},
		{ID: 3, Members: members(way(1), way(1)), Tags: multi},
		{ID: 4, Members: members(way(1), way(6)), Tags: multi}, // a side is missing
		{ID: 5, Members: members(way(1), way(1), way(3)), Tags: multi},
		{ID: 6, Members: members(way(6), way(7), way(8)), Tags: multi},
		{ID: 7, Members: members(way(1), way(1), way(1)), Tags: multi},
		{ID: 8, Members: members(way(4), way(6)), Tags: multi}, // crosses itself and is open
	}
	first, second := ring(10, 10, 20, 10, 20, 20, 10, 20), ring(10, 20, 20, 20, 20, 30, 10, 30)
	small := ring(12, 12, 14, 12, 12, 14)
	inner := ring(12, 12, 12, 14, 14, 12)
	both := ring(10, 10, 20, 10, 20, 20, 20, 30, 10, 30, 10, 20)
	joined := ring(10, 10, 20, 10, 20, 20, 20, 30, 10, 30, 10, 20)
	for _, x := range []struct {
		r     api.Ref
		theme int
		tags  []api.Tag
		rings [][]api.Point
		err   api.Errno
	}{
		{way(1), api.Land, farm, [][]api.Point{first}, api.OK},
		{way(2), api.Border, d.Ways[1].Tags, [][]api.Point{second}, api.OK},
		{way(4), 0, nil, nil, api.ErrCross},
		{way(5), 0, nil, nil, api.ErrEmpty},
		{rel(1), api.Water, multi, [][]api.Point{both}, api.OK},
		{rel(2), api.Building, building, [][]api.Point{first, inner}, api.OK},
		{rel(3), 0, nil, nil, api.ErrEmpty},
		{rel(4), 0, nil, nil, api.ErrOpen},
		{rel(5), api.Water, multi, [][]api.Point{small}, api.OK},
		{rel(6), api.Water, multi, [][]api.Point{joined}, api.OK},
		{rel(7), api.Water, multi, [][]api.Point{first}, api.OK},
		{rel(8), 0, nil, nil, api.ErrCross},
	} {
		want := api.Area{Theme: x.theme, Tags: x.tags, Rings: x.rings}
		if x.err == api.OK {
			want.Ref = x.r
		}
		if got, err := One(d, x.r); err != x.err || !sameAreas([]api.Area{got}, []api.Area{want}) {
			t.Errorf("One of %v is %v, %d, not %v, %d", x.r, got, err, want, x.err)
		}
	}
}

// A part of a side that occurs twice cancels only after the sides are divided.
func TestP23_1Split(t *testing.T) {
	d := api.Data{Nodes: nodes(10, 10, 20, 10, 20, 20, 10, 20, 20, 12, 30, 12, 30, 16, 20, 16)}
	d.Ways = []api.Way{{ID: 1, Nodes: []int{1, 2, 3, 4, 1}}, {ID: 2, Nodes: []int{5, 6, 7, 8, 5}}}
	d.Rels = []api.Rel{{ID: 1, Members: members(way(1), way(2)), Tags: multi}}
	want := [][]api.Point{ring(10, 10, 20, 10, 20, 12, 30, 12, 30, 16, 20, 16, 20, 20, 10, 20)}
	if got, err := One(d, rel(1)); err != api.OK || !sameRings(got.Rings, want) {
		t.Errorf("One is %v, %d, not %v", got, err, want)
	}
}

// randomData returns a dataset with closed ways of the corners of a small net and relations of them; some are no candidates, and some have no area.
func randomData(r *rand.Rand) api.Data {
	var d api.Data
	var corners []int
	for i := range 25 {
		corners = append(corners, 2*(i%5), 2*(i/5))
	}
	d.Nodes = nodes(corners...)
	themes := [][]api.Tag{farm, nil, tagList("natural", "water"), tagList("building", "yes"), tagList("area", "no", "landuse", "farm"), farm}
	for id := range 1 + r.Intn(6) {
		w := api.Way{ID: 2*id + 1, Tags: themes[r.Intn(len(themes))]}
		x, y, dx, dy := r.Intn(4), r.Intn(4), 1+r.Intn(2), 1+r.Intn(2)
		for _, p := range []api.Point{{X: x, Y: y}, {X: x + dx, Y: y}, {X: x + dx, Y: y + dy}, {X: x, Y: y + dy}} {
			if r.Intn(12) > 0 {
				w.Nodes = append(w.Nodes, 1+min(p.X, 4)+5*min(p.Y, 4))
			}
		}
		if r.Intn(2) == 0 {
			slices.Reverse(w.Nodes)
		}
		if len(w.Nodes) < 2 || r.Intn(8) > 0 {
			w.Nodes = append(w.Nodes, append(w.Nodes, 1, 1)[0])
		}
		if len(w.Nodes) < 2 {
			w.Nodes = []int{1, 2}
		}
		d.Ways = append(d.Ways, w)
	}
	for id := range r.Intn(4) {
		x := api.Rel{ID: 3*id + 2, Tags: [][]api.Tag{multi, multi, tagList("landuse", "x", "type", "multipolygon"), farm}[r.Intn(4)]}
		for range r.Intn(4) {
			x.Members = append(x.Members, api.Member{Ref: way(d.Ways[r.Intn(len(d.Ways))].ID)})
		}
		d.Rels = append(d.Rels, x)
	}
	return d
}

// refs returns the references of all ways, then of all relations.
func refs(d api.Data) (out []api.Ref) {
	for _, w := range d.Ways {
		out = append(out, way(w.ID))
	}
	for _, r := range d.Rels {
		out = append(out, rel(r.ID))
	}
	return out
}

func TestP23_2All(t *testing.T) {
	r := rand.New(rand.NewSource(1))
	count := map[api.Errno]int{}
	for range 3000 {
		d := randomData(r)
		var want []api.Area
		var faults []api.Fault
		for _, ref := range refs(d) {
			a, err := One(d, ref)
			count[err]++
			if err == api.OK {
				want = append(want, a)
			} else if err != api.ErrNone {
				faults = append(faults, api.Fault{Ref: ref, Err: err})
			}
		}
		l, f := All(d)
		if !sameAreas(l, want) || !slices.Equal(f, faults) {
			t.Fatalf("All(%v) is %v, %v, not %v, %v", d, l, f, want, faults)
		}
	}
	for _, err := range []api.Errno{api.OK, api.ErrNone, api.ErrEmpty, api.ErrCross, api.ErrOpen} {
		if count[err] < 20 {
			t.Errorf("One returns %d only %d times", err, count[err])
		}
	}
}

// A point is inside an area exactly if an odd number of segments cross the ray from it.
func TestP2EvenOdd(t *testing.T) {
	r := rand.New(rand.NewSource(2))
	points := 0
	for range 3000 {
		d := randomData(r)
		l, _ := All(d)
		for _, a := range l {
			segs, _ := Segs(d, a.Ref)
			var own []api.Seg
			for _, x := range a.Rings {
				own = append(own, noding.Of(append(slices.Clone(x), x[0]))...)
			}
			if !slices.Equal(noding.Sort(own), noding.Odd(noding.Split(segs))) {
				t.Fatalf("the rings of %v do not have each boundary segment once", a)
			}
			for x := range 10 {
				for y := range 10 {
					inside := false
					for _, s := range segs {
						// All segments are axis-parallel or diagonals; none has a point between the grid points that is on the ray.
						inside = inside != crossesRay(s, 2*x+1, 2*y+1)
					}
					if got := insideRings(a.Rings, 2*x+1, 2*y+1); got != inside {
						t.Fatalf("the point %d/2 %d/2 is inside of %v: %v, not %v", 2*x+1, 2*y+1, a, got, inside)
					}
					points++
				}
			}
		}
	}
	if points < 10000 {
		t.Errorf("only %d points were tested", points)
	}
}

// crossesRay reports whether the segment crosses the ray from the point in half units, nudged so that it is on no segment.
func crossesRay(s api.Seg, x, y int) bool {
	a, b := at(200*s.A.X, 200*s.A.Y), at(200*s.B.X, 200*s.B.Y)
	px, py := 100*x+1, 100*y+3
	if a.Y > b.Y {
		a, b = b, a
	}
	return a.Y <= py && py < b.Y && (b.X-a.X)*(py-a.Y)-(b.Y-a.Y)*(px-a.X) > 0
}

func insideRings(rings [][]api.Point, x, y int) bool {
	inside := false
	for _, r := range rings {
		for i, p := range r {
			inside = inside != crossesRay(api.Seg{A: p, B: r[(i+1)%len(r)]}, x, y)
		}
	}
	return inside
}

func area(id, theme int, rings ...[]api.Point) api.Area {
	return api.Area{Ref: way(id), Theme: theme, Tags: tagList("n", strconv.Itoa(id)), Rings: rings}
}

func square(x, y, size int) []api.Point {
	return ring(x, y, x+size, y, x+size, y+size, x, y+size)
}

func TestP23_2Planar(t *testing.T) {
	bow := ring(0, 0, 8, 8, 8, 0, 0, 8)
	for _, x := range []struct {
		name string
		l    []api.Area
		want []int
	}{
		{"none", nil, nil},
		{"one", []api.Area{area(1, 1, square(0, 0, 8))}, []int{1}},
		{"one that crosses itself", []api.Area{area(1, 1, bow), area(2, 1, square(20, 0, 4))}, []int{1, 2}},
		{"crossing", []api.Area{area(1, 1, square(0, 0, 8)), area(2, 1, square(4, 4, 8))}, []int{1}},
		{"crossing, other order", []api.Area{area(2, 1, square(4, 4, 8)), area(1, 1, square(0, 0, 8))}, []int{2}},
		{"crossing with other themes", []api.Area{area(1, 1, square(0, 0, 8)), area(2, 2, square(4, 4, 8)), area(3, 3, square(2, 2, 8))}, []int{1, 2, 3}},
		{"crossing with a theme that is none", []api.Area{area(1, -7, square(0, 0, 8)), area(2, 99, square(4, 4, 8)), area(3, -7, square(2, 2, 8))}, []int{1, 2}},
		{"crossing one that was not accepted", []api.Area{area(1, 1, square(0, 0, 8)), area(2, 1, square(4, 4, 8)), area(3, 1, square(10, 10, 8))}, []int{1, 3}},
		{"crossing the second one", []api.Area{area(1, 1, square(0, 0, 4)), area(2, 1, square(10, 0, 4)), area(3, 1, square(12, 2, 4)), area(4, 1, square(6, 0, 4))}, []int{1, 2, 4}},
		{"crossing with the second ring", []api.Area{area(1, 1, square(0, 0, 4), square(20, 20, 4)), area(2, 1, square(8, 0, 4), square(22, 22, 4))}, []int{1}},
		{"crossing with the closing side", []api.Area{area(1, 1, ring(4, 4, 8, 8, 4, 8)), area(2, 1, ring(2, 7, 6, 7, 2, 20))}, []int{1}},
		{"equal", []api.Area{area(1, 1, square(0, 0, 8)), area(2, 1, square(0, 0, 8))}, []int{1, 2}},
		{"within", []api.Area{area(1, 1, square(0, 0, 8)), area(2, 1, square(2, 2, 3))}, []int{1, 2}},
		{"with a common side", []api.Area{area(1, 1, square(0, 0, 8)), area(2, 1, square(8, 0, 8))}, []int{1, 2}},
		{"with a part of a side", []api.Area{area(1, 1, square(0, 0, 8)), area(2, 1, square(8, 2, 3))}, []int{1, 2}},
		{"touching a side", []api.Area{area(1, 1, square(0, 0, 8)), area(2, 1, ring(8, 4, 12, 2, 12, 6))}, []int{1, 2}},
		{"touching a side from both sides", []api.Area{area(1, 1, square(0, 0, 8)), area(2, 1, ring(8, 4, 12, 2, 12, 6, 8, 4, 4, 6, 4, 2))}, []int{1, 2}},
		{"overlapping with corners on sides", []api.Area{area(1, 1, square(0, 0, 8)), area(2, 1, ring(4, 0, 8, 4, 4, 8, 0, 4))}, []int{1, 2}},
		{"a corner in a corner", []api.Area{area(1, 1, square(0, 0, 8)), area(2, 1, ring(0, 0, 8, 8, 8, 0))}, []int{1, 2}},
		{"through a corner", []api.Area{area(1, 1, ring(0, 0, 4, 4, 0, 8)), area(2, 1, ring(0, 4, 8, 4, 8, 20, 0, 20))}, []int{1, 2}},
		{"no rings", []api.Area{area(1, 1, square(0, 0, 8)), area(2, 1), area(3, 1, nil), area(4, 1, ring(4, 4))}, []int{1, 2, 3, 4}},
		{"two points that cross", []api.Area{area(1, 1, square(0, 0, 8)), area(2, 1, ring(4, 4, 12, 5))}, []int{1}},
		{"points beyond the grid", []api.Area{area(1, 1, square(0, 0, 8)), area(2, 1, ring(-4, 4, 4, 5, -4, 6)), area(3, 1, ring(math.MinInt, 0, math.MaxInt, 3, 4, math.MaxInt))}, []int{1, 2, 3}},
		{"a ring with one side on the grid", []api.Area{area(1, 1, square(0, 0, 8)), area(2, 1, ring(4, 4, 12, 5, -3, 6))}, []int{1}},
		{"the whole grid", []api.Area{area(1, 1, square(0, 0, api.Side-1)), area(2, 1, ring(0, 0, api.Side-1, api.Side-1, 0, 9)), area(3, 1, ring(0, 5, 9, 5, 9, 20))}, []int{1, 2}},
	} {
		var want []api.Area
		var faults []api.Fault
		for _, a := range x.l {
			if slices.Contains(x.want, a.Ref.ID) {
				want = append(want, a)
			} else {
				faults = append(faults, api.Fault{Ref: a.Ref, Err: api.ErrCross})
			}
		}
		if got, f := Planar(x.l); !sameAreas(got, want) || !slices.Equal(f, faults) {
			t.Errorf("Planar of %s is %v, %v", x.name, got, f)
		}
	}
}

func turn(a, b, c api.Point) int {
	n := (b.X-a.X)*(c.Y-a.Y) - (b.Y-a.Y)*(c.X-a.X)
	return max(min(n, 1), -1)
}

// anyCross reports whether a side of a ring of a crosses one of b, by a search through all pairs.
func anyCross(a, b api.Area) bool {
	for _, r := range a.Rings {
		for i := range r {
			for _, s := range b.Rings {
				for j := range s {
					p, q, u, v := r[i], r[(i+1)%len(r)], s[j], s[(j+1)%len(s)]
					if turn(p, q, u)*turn(p, q, v) < 0 && turn(u, v, p)*turn(u, v, q) < 0 {
						return true
					}
				}
			}
		}
	}
	return false
}

func TestP23_2PlanarBySearch(t *testing.T) {
	r := rand.New(rand.NewSource(3))
	total := 0
	for range 4000 {
		size := []int{8, 40, api.Side}[r.Intn(3)]
		var l, want []api.Area
		var faults []api.Fault
		for id := range r.Intn(9) {
			a := area(id+1, 1+r.Intn(2))
			for range 1 + r.Intn(2) {
				x, y, w := r.Intn(size), r.Intn(size), 1+r.Intn(size/2)
				var pts []api.Point
				for range 3 + r.Intn(2) {
					pts = append(pts, at(min(x+r.Intn(w), size-1), min(y+r.Intn(w), size-1)))
				}
				a.Rings = append(a.Rings, pts)
			}
			l = append(l, a)
		}
		for _, a := range l {
			if slices.ContainsFunc(want, func(b api.Area) bool { return a.Theme == b.Theme && anyCross(a, b) }) {
				faults = append(faults, api.Fault{Ref: a.Ref, Err: api.ErrCross})
			} else {
				want = append(want, a)
			}
		}
		if got, f := Planar(l); !sameAreas(got, want) || !slices.Equal(f, faults) {
			t.Fatalf("Planar(%v) is %v, %v, not %v, %v", l, got, f, want, faults)
		}
		total += len(faults)
		again, f := Planar(want)
		if !sameAreas(again, want) || len(f) > 0 {
			t.Fatalf("Planar of a planar list is %v, %v", again, f)
		}
	}
	if total < 500 {
		t.Errorf("there are only %d faults", total)
	}
}

// divided returns the dataset with the same boundary in relation 1: every way is cut in pieces, directed at random, and the members are in another order; some segments are added in pairs.
func divided(r *rand.Rand, d api.Data) api.Data {
	out := api.Data{Nodes: d.Nodes}
	var list []api.Member
	add := func(l []int) api.Ref {
		l = slices.Clone(l)
		if r.Intn(2) == 0 {
			slices.Reverse(l)
		}
		id := len(out.Ways) + 1
		out.Ways = append(out.Ways, api.Way{ID: id, Nodes: l})
		list = append(list, api.Member{Ref: way(id)})
		return way(id)
	}
	for _, m := range d.Rels[0].Members {
		var l []int
		for _, w := range d.Ways {
			if m.Ref == way(w.ID) {
				l = w.Nodes
			}
		}
		for len(l) > 1 {
			n := 2 + r.Intn(len(l)-1)
			add(l[:n])
			l = l[n-1:]
		}
	}
	// A pair of equal segments between corners that are ends already.
	pair := add([]int{1, 2})
	list = append(list, api.Member{Ref: pair})
	r.Shuffle(len(list), func(i, j int) { list[i], list[j] = list[j], list[i] })
	out.Rels = []api.Rel{{ID: d.Rels[0].ID, Members: list, Tags: d.Rels[0].Tags}}
	return out
}

func TestP23_3Division(t *testing.T) {
	r := rand.New(rand.NewSource(4))
	count := map[api.Errno]int{}
	for range 2000 {
		d := randomData(r)
		d.Rels = []api.Rel{{ID: 2, Tags: multi}}
		corner := api.Way{ID: 99, Nodes: []int{1, 2, 7, 6, 1}} // so that the ends of the pair are ends anyway
		d.Ways = append(d.Ways, corner)
		for _, w := range d.Ways {
			d.Rels[0].Members = append(d.Rels[0].Members, api.Member{Ref: way(w.ID)})
		}
		want, wantErr := One(d, rel(2))
		got, err := One(divided(r, d), rel(2))
		if err != wantErr || !sameAreas([]api.Area{got}, []api.Area{want}) {
			t.Fatalf("One of the divided ways of %v is %v, %d, not %v, %d", d, got, err, want, wantErr)
		}
		count[err]++
	}
	if count[api.OK] < 200 {
		t.Errorf("the errors are %v", count)
	}
}

// The areas of a dataset depend on the set of their boundary segments only, and are those of trace.
func TestP23_3Set(t *testing.T) {
	r := rand.New(rand.NewSource(5))
	for range 1000 {
		d := randomData(r)
		for _, ref := range refs(d) {
			segs, ok := Segs(d, ref)
			if !ok {
				continue
			}
			rings, err := trace.Rings(noding.Odd(noding.Split(segs)))
			if got, gotErr := One(d, ref); gotErr != err || !sameRings(got.Rings, rings) {
				t.Fatalf("One(%v, %v) is %v, %d, not %v, %d", d, ref, got, gotErr, rings, err)
			}
		}
	}
}

func TestP23_Aliasing(t *testing.T) {
	d := squares()
	spare := api.Tag{Key: "spare"}
	own := append(tagList("landuse", "farm"), spare)
	d.Ways = []api.Way{{ID: 1, Nodes: []int{1, 2, 3, 4, 1}, Tags: own[:1]}}
	d.Rels = []api.Rel{{ID: 1, Members: members(way(1)), Tags: slices.Clone(multi)}}
	one, _ := One(d, way(1))
	l, _ := All(d)
	segs, _ := Segs(d, way(1))
	want := slices.Clone(segs)
	_ = append(one.Tags, api.Tag{Key: "x"})
	_ = append(l[0].Tags, api.Tag{Key: "x"})
	if own[1] != spare || !slices.Equal(d.Ways[0].Nodes, []int{1, 2, 3, 4, 1}) {
		t.Error("an argument is changed")
	}
	own[0].Val, d.Rels[0].Tags[0].Val = "x", "x"
	if one.Tags[0].Val != "farm" || l[0].Tags[0].Val != "farm" || l[1].Tags[0].Val != "water" || !slices.Equal(segs, want) {
		t.Error("a result shares memory with an argument")
	}
	pts := append(square(0, 0, 8), at(77, 77))
	given := []api.Area{{Ref: way(1), Tags: own[:1], Rings: [][]api.Point{pts[:4]}}, area(2, 0, square(4, 4, 8)), area(9, 0)}
	full := given[:2]
	got, _ := Planar(full)
	_ = append(got, area(7, 0))
	_ = append(got[0].Rings[0], at(5, 5))
	_ = append(got[0].Tags, api.Tag{})
	if pts[4] != at(77, 77) || own[1] != spare || given[2].Ref.ID != 9 {
		t.Error("Planar changes its argument")
	}
	clear(pts)
	own[0].Val = "y"
	given[0].Rings[0] = nil
	if !sameRings(got[0].Rings, [][]api.Point{square(0, 0, 8)}) || got[0].Tags[0].Val != "x" {
		t.Errorf("Planar shares memory with its argument: %v", got)
	}
}
