package mesh

import (
	"cmp"
	"math"
	"math/rand"
	"slices"
	"testing"

	"mapmaker/api"
	"mapmaker/noding"
	"mapmaker/trace"
)

func at(x, y int) api.Point { return api.Point{X: x, Y: y} }

func before(a, b api.Point) bool { return a.X < b.X || a.X == b.X && a.Y < b.Y }

func segOf(a, b api.Point) api.Seg {
	if before(b, a) {
		a, b = b, a
	}
	return api.Seg{A: a, B: b}
}

// ring returns the points whose X and Y are given in turn.
func ring(l ...int) (out []api.Point) {
	for i := 0; i < len(l); i += 2 {
		out = append(out, at(l[i], l[i+1]))
	}
	return out
}

// sides4 returns the sides of a rectangle.
func sides4(x, y, w, h int) []api.Seg { return sidesOfRing(x, y, x+w, y, x+w, y+h, x, y+h) }

// sidesOfRing returns the segments of a ring.
func sidesOfRing(l ...int) (out []api.Seg) {
	r := ring(l...)
	for i := range r {
		out = append(out, segOf(r[i], r[(i+1)%len(r)]))
	}
	return out
}

func segs(l ...int) (out []api.Seg) {
	for i := 0; i < len(l); i += 4 {
		out = append(out, api.Seg{A: at(l[i], l[i+1]), B: at(l[i+2], l[i+3])})
	}
	return out
}

func edge(ax, ay, bx, by int, left, right []int) api.Edge {
	return api.Edge{A: at(ax, ay), B: at(bx, by), Left: left, Right: right}
}

func equal(a, b []api.Edge) bool {
	if len(a) != len(b) {
		return false
	}
	for i, e := range a {
		f := b[i]
		if e.A != f.A || e.B != f.B || !slices.Equal(e.Left, f.Left) || !slices.Equal(e.Right, f.Right) {
			return false
		}
	}
	return true
}

func must(t *testing.T, l [][]api.Seg) []api.Edge {
	t.Helper()
	m, err := Build(l)
	if err != api.OK {
		t.Fatalf("Build(%v) returns %d", l, err)
	}
	return m
}

// ignored has segments that are not counted: their ends are equal or not on the grid.
var ignored = segs(2, 2, 2, 2, -1, 0, 4, 4, 0, 0, api.Side, 3, math.MinInt, 0, math.MaxInt, 0)

func TestP24_1Errors(t *testing.T) {
	square, open, crossed := sides4(0, 0, 8, 8), segs(20, 20, 30, 30), sidesOfRing(40, 0, 48, 8, 48, 0, 40, 8)
	for _, x := range []struct {
		name string
		l    [][]api.Seg
		want api.Errno
	}{
		{"none", nil, api.OK},
		{"empty ones", [][]api.Seg{nil, ignored, {}}, api.OK},
		{"one", [][]api.Seg{square}, api.OK},
		{"an open one", [][]api.Seg{square, open}, api.ErrOpen},
		{"a crossed one", [][]api.Seg{square, crossed}, api.ErrCross},
		{"open, then crossed", [][]api.Seg{open, crossed}, api.ErrOpen},
		{"crossed, then open", [][]api.Seg{crossed, open}, api.ErrCross},
		{"crossed and open", [][]api.Seg{slices.Concat(open, crossed)}, api.ErrCross},
		{"open, others cross", [][]api.Seg{square, sides4(4, 4, 8, 8), open}, api.ErrOpen},
		{"two that cross", [][]api.Seg{square, nil, sides4(4, 4, 8, 8)}, api.ErrCross},
		{"a corner within a side of its own", [][]api.Seg{slices.Concat(square, sidesOfRing(8, 4, 12, 2, 12, 6))}, api.ErrCross},
		{"a corner within a side of another", [][]api.Seg{square, sidesOfRing(8, 4, 12, 2, 12, 6)}, api.OK},
		{"a part of a side", [][]api.Seg{square, sides4(8, 2, 4, 4)}, api.OK},
		{"a part of a side of its own", [][]api.Seg{slices.Concat(square, sides4(8, 2, 4, 4))}, api.ErrCross},
		{"the same", [][]api.Seg{square, square}, api.OK},
		{"twice in one", [][]api.Seg{slices.Concat(square, square)}, api.OK},
		{"within", [][]api.Seg{square, sides4(2, 2, 3, 3)}, api.OK},
		{"crossing in corners of a third", [][]api.Seg{sidesOfRing(0, 0, 8, 8, 0, 8), sidesOfRing(0, 8, 8, 0, 8, 4), sidesOfRing(4, 4, 6, 4, 6, 5)}, api.ErrCross},
		{"crossing in corners of a third and further ones", [][]api.Seg{sidesOfRing(0, 0, 8, 8, 0, 20), sidesOfRing(0, 8, 8, 0, 20, 20), sidesOfRing(4, 4, 6, 4, 6, 5)}, api.ErrCross},
	} {
		m, err := Build(x.l)
		if err != x.want || err != api.OK && len(m) > 0 {
			t.Errorf("Build of %s is %v, %d, not %d", x.name, m, err, x.want)
		}
	}
}

// Segments that cross in a point where a third area has an end are divided there, and then have only this end in common.
func TestP24_1Divided(t *testing.T) {
	l := [][]api.Seg{sidesOfRing(2, 2, 6, 6, 2, 6), sidesOfRing(2, 6, 6, 2, 8, 8), sidesOfRing(4, 4, 6, 4, 6, 5)}
	if m, err := Build(l[:2]); err != api.ErrCross || len(m) > 0 {
		t.Errorf("Build of two triangles that cross is %v, %d, not ErrCross", m, err)
	}
	m, err := Build(l)
	if err != api.OK || len(m) != 11 || Check(m) != api.OK {
		t.Errorf("Build with a third one at the crossing is %v, %d", m, err)
	}
	l = [][]api.Seg{sides4(0, 0, 4, 4), sidesOfRing(2, 0, 4, 2, 2, 4, 0, 2)}
	if m, err := Build(l); err != api.OK || len(m) != 12 {
		t.Errorf("Build of a square with its middles is %v, %d", m, err)
	}
}

func TestP24_1Limit(t *testing.T) {
	many := make([][]api.Seg, 20000)
	many[19999] = sides4(0, 0, 4, 4)
	m, err := Build(many)
	if err != api.OK || len(m) != 4 || !slices.Equal(m[0].Right, []int{19999}) {
		t.Errorf("Build of 20000 areas is %v, %d", m, err)
	}
	if c := Check(m); c != api.OK {
		t.Errorf("Check of the mesh of 20000 areas is %d", c)
	}
	many = append(many, nil)
	many[0] = segs(0, 0, 1, 1)
	if m, err := Build(many); err != api.ErrLong || len(m) > 0 {
		t.Errorf("Build of 20001 areas is %v, %d, not ErrLong", m, err)
	}
	if m, err := OfAreas(make([]api.Area, 20001)); err != api.ErrLong || len(m) > 0 {
		t.Errorf("OfAreas of 20001 areas is %v, %d, not ErrLong", m, err)
	}
	if m, err := OfAreas(make([]api.Area, 20000)); err != api.OK || len(m) > 0 {
		t.Errorf("OfAreas of 20000 areas is %v, %d", m, err)
	}
}

func TestP24_1Build(t *testing.T) {
	a, b, both := []int{0}, []int{1}, []int{0, 1}
	for _, x := range []struct {
		name string
		l    [][]api.Seg
		want []api.Edge
	}{
		{"a square", [][]api.Seg{sides4(0, 0, 4, 4)}, []api.Edge{
			edge(0, 0, 0, 4, nil, a), edge(0, 0, 4, 0, a, nil), edge(0, 4, 4, 4, nil, a), edge(4, 0, 4, 4, a, nil)}},
		{"a square, ignored segments and reversed ones", [][]api.Seg{nil, slices.Concat(ignored, segs(4, 4, 0, 4, 0, 4, 0, 0, 4, 0, 0, 0, 4, 4, 4, 0, 0, 0, 4, 0))}, []api.Edge{
			edge(0, 0, 0, 4, nil, b), edge(0, 0, 4, 0, b, nil), edge(0, 4, 4, 4, nil, b), edge(4, 0, 4, 4, b, nil)}},
		{"a common side", [][]api.Seg{sides4(0, 0, 4, 4), sides4(4, 0, 4, 4)}, []api.Edge{
			edge(0, 0, 0, 4, nil, a), edge(0, 0, 4, 0, a, nil), edge(0, 4, 4, 4, nil, a), edge(4, 0, 4, 4, a, b),
			edge(4, 0, 8, 0, b, nil), edge(4, 4, 8, 4, nil, b), edge(8, 0, 8, 4, b, nil)}},
		{"a square in a square", [][]api.Seg{sides4(0, 0, 9, 9), sides4(2, 2, 4, 4)}, []api.Edge{
			edge(0, 0, 0, 9, nil, a), edge(0, 0, 9, 0, a, nil), edge(0, 9, 9, 9, nil, a),
			edge(2, 2, 2, 6, a, both), edge(2, 2, 6, 2, both, a), edge(2, 6, 6, 6, a, both), edge(6, 2, 6, 6, both, a),
			edge(9, 0, 9, 9, a, nil)}},
		{"the same triangle", [][]api.Seg{sidesOfRing(0, 0, 4, 2, 2, 4), sidesOfRing(0, 0, 4, 2, 2, 4)}, []api.Edge{
			edge(0, 0, 2, 4, nil, both), edge(0, 0, 4, 2, both, nil), edge(2, 4, 4, 2, nil, both)}},
		{"a part of a side from inside", [][]api.Seg{sides4(0, 0, 6, 6), sidesOfRing(6, 2, 6, 4, 3, 3)}, []api.Edge{
			edge(0, 0, 0, 6, nil, a), edge(0, 0, 6, 0, a, nil), edge(0, 6, 6, 6, nil, a),
			edge(3, 3, 6, 2, both, a), edge(3, 3, 6, 4, a, both),
			edge(6, 0, 6, 2, a, nil), edge(6, 2, 6, 4, both, nil), edge(6, 4, 6, 6, a, nil)}},
	} {
		if got, err := Build(x.l); err != api.OK || !equal(got, x.want) {
			t.Errorf("Build of %s is %v, %d, not %v", x.name, got, err, x.want)
		}
	}
}

func TestP24_1OfAreas(t *testing.T) {
	hole := ring(2, 2, 2, 4, 4, 4, 4, 2)
	l := []api.Area{
		{Ref: api.Ref{Kind: 2, ID: 9}, Theme: 5, Rings: [][]api.Point{ring(0, 0, 9, 0, 9, 9, 0, 9), hole}},
		{},
		{Rings: [][]api.Point{ring(2, 2, 4, 2, 4, 2, 4, 4, 2, 4), ring(9, 9), nil, ring(0, 0, api.Side, 0, 5, 5)}},
	}
	got, err := OfAreas(l)
	want := must(t, [][]api.Seg{slices.Concat(sides4(0, 0, 9, 9), sides4(2, 2, 2, 2)), nil, sides4(2, 2, 2, 2)})
	if err != api.OK || !equal(got, want) {
		t.Errorf("OfAreas is %v, %d, not %v", got, err, want)
	}
	if a := Adjacent(got); !slices.Equal(a, [][2]int{{0, 2}}) {
		t.Errorf("Adjacent of an area and its hole is %v", a)
	}
	for _, x := range []struct {
		rings [][]api.Point
		want  api.Errno
	}{
		{[][]api.Point{ring(0, 0, 4, 4)}, api.ErrOpen},
		{[][]api.Point{ring(0, 0, 4, 4, 4, 0, 0, 4)}, api.ErrCross},
		{[][]api.Point{ring(0, 0, 4, 0, 4, 4, 0, 4), ring(0, 0, 4, 0, 2, 2)}, api.ErrOpen},
	} {
		if m, err := OfAreas([]api.Area{{Rings: x.rings}}); err != x.want || len(m) > 0 {
			t.Errorf("OfAreas of %v is %v, %d, not %d", x.rings, m, err, x.want)
		}
	}
}

// A net is a grid of cells, each divided by one of its diagonals and mapped to the plane by a linear map, so that segments have many directions; each triangle belongs to a set of areas.
type net struct {
	areas     int
	triangles []triangle
	segs      [][]api.Seg // of the areas, with as few points as possible
}

type triangle struct {
	corners [3]api.Point
	in      []int
}

var maps = [][6]int{{1, 0, 0, 0, 1, 0}, {2, 1, 0, 1, 3, 0}, {0, 1, 0, 1, 0, 0}, {3, -1, 20, 2, 2, 0}, {-1, 1, 30, -1, -2, 40}, {1, 10, 0, 0, -1, 20}, {4, 0, 1, 0, 4, 1}}

func turn(a, b, c api.Point) int {
	return (b.X-a.X)*(c.Y-a.Y) - (b.Y-a.Y)*(c.X-a.X)
}

func randomNet(r *rand.Rand) net {
	x := net{areas: r.Intn(5)}
	n, m, density := 1+r.Intn(5), maps[r.Intn(len(maps))], []int{20, 50, 90}[r.Intn(3)]
	corner := func(i, j int) api.Point { return at(m[0]*i+m[1]*j+m[2], m[3]*i+m[4]*j+m[5]) }
	for i := range n {
		for j := range n {
			a, b, c, d := corner(i, j), corner(i+1, j), corner(i+1, j+1), corner(i, j+1)
			if r.Intn(2) == 0 {
				a, b, c, d = b, c, d, a
			}
			for _, corners := range [][3]api.Point{{a, b, c}, {a, c, d}} {
				t := triangle{corners: corners}
				for area := range x.areas {
					if r.Intn(100) < density {
						t.in = append(t.in, area)
					}
				}
				x.triangles = append(x.triangles, t)
			}
		}
	}
	for area := range x.areas {
		// At a point only one of the areas is straightened, so that no segments cross.
		x.segs = append(x.segs, straightened(x.boundary(area), func(p api.Point) bool { return (p.X*7+p.Y*3)%x.areas == area }))
	}
	return x
}

// boundary returns the sides of triangles with the area on one side only.
func (x net) boundary(area int) map[api.Seg]bool {
	out := map[api.Seg]bool{}
	for _, t := range x.triangles {
		for i, p := range t.corners {
			s := segOf(p, t.corners[(i+1)%3])
			if !slices.Contains(t.in, area) {
				continue
			}
			if out[s] {
				delete(out, s)
			} else {
				out[s] = true
			}
		}
	}
	return out
}

// straightened returns the segments after those that meet in the middle of a line, where no others end, have been joined at the points that may be removed.
func straightened(set map[api.Seg]bool, may func(p api.Point) bool) []api.Seg {
	for joined := true; joined; {
		joined = false
		ends := map[api.Point][]api.Seg{}
		for s := range set {
			ends[s.A], ends[s.B] = append(ends[s.A], s), append(ends[s.B], s)
		}
		for p, l := range ends {
			if len(l) == 2 && may(p) && turn(l[0].A, l[0].B, l[1].A) == 0 && turn(l[0].A, l[0].B, l[1].B) == 0 {
				whole := segOf(other(l[0], p), other(l[1], p))
				delete(set, l[0])
				delete(set, l[1])
				set[whole] = true
				joined = true
				break
			}
		}
	}
	var out []api.Seg
	for s := range set {
		out = append(out, s)
	}
	slices.SortFunc(out, func(a, b api.Seg) int {
		return cmp.Or(cmp.Compare(a.A.X, b.A.X), cmp.Compare(a.A.Y, b.A.Y), cmp.Compare(a.B.X, b.B.X), cmp.Compare(a.B.Y, b.B.Y))
	})
	return out
}

func other(s api.Seg, p api.Point) api.Point {
	if s.A == p {
		return s.B
	}
	return s.A
}

// at returns the areas of the triangle that contains the point, whose coordinates are given with a factor, in its interior.
func (x net) at(p api.Point, factor int) []int {
	for _, t := range x.triangles {
		var c [3]api.Point
		for i, q := range t.corners {
			c[i] = at(factor*q.X, factor*q.Y)
		}
		a, b, d := turn(c[0], c[1], p), turn(c[1], c[2], p), turn(c[2], c[0], p)
		if a > 0 && b > 0 && d > 0 || a < 0 && b < 0 && d < 0 {
			return t.in
		}
	}
	return nil
}

// edges returns the mesh of the net: for each divided segment the areas of the triangles beside it, which begin next to its middle.
func (x net) edges() []api.Edge {
	var out []api.Edge
	for _, s := range noding.Unique(noding.Split(slices.Concat(x.segs...))) {
		const factor = 2000000
		dx, dy := s.B.X-s.A.X, s.B.Y-s.A.Y
		// A point near the middle that is on no side of a triangle.
		mx, my := factor/2*(s.A.X+s.B.X)+dx, factor/2*(s.A.Y+s.B.Y)+dy
		left, right := at(mx-dy*7, my+dx*7), at(mx+dy*7, my-dx*7)
		out = append(out, api.Edge{A: s.A, B: s.B, Left: x.at(left, factor), Right: x.at(right, factor)})
	}
	return out
}

// nets calls see with random nets.
func nets(n int, see func(r *rand.Rand, x net)) {
	r := rand.New(rand.NewSource(1))
	for range n {
		see(r, randomNet(r))
	}
}

func TestP24_1ByTriangles(t *testing.T) {
	count := 0
	nets(3000, func(r *rand.Rand, x net) {
		m, err := Build(x.segs)
		if want := x.edges(); err != api.OK || !equal(m, want) {
			t.Fatalf("Build(%v) is %v, %d, not %v", x.segs, m, err, want)
		}
		if c := Check(m); c != api.OK {
			t.Fatalf("Check(%v) is %d", m, c)
		}
		count += len(m)
	})
	if count < 10000 {
		t.Errorf("there are only %d edges", count)
	}
}

// holdsAll reports whether the area a contains every triangle of b, of which there is one.
func (x net) holdsAll(a, b int) bool {
	some := false
	for _, t := range x.triangles {
		if slices.Contains(t.in, b) {
			some = true
			if !slices.Contains(t.in, a) {
				return false
			}
		}
	}
	return some
}

// meetAlone reports whether two neighbouring triangles have a and b, one each only.
func (x net) meetAlone(a, b int) bool {
	only := func(t triangle) int {
		inA, inB := slices.Contains(t.in, a), slices.Contains(t.in, b)
		switch {
		case inA && !inB:
			return 1
		case inB && !inA:
			return 2
		}
		return 0
	}
	side := map[api.Seg]int{}
	for _, t := range x.triangles {
		for i, p := range t.corners {
			s := segOf(p, t.corners[(i+1)%3])
			if side[s]+only(t) == 3 && only(t) > 0 && side[s] > 0 {
				return true
			}
			side[s] = only(t)
		}
	}
	return false
}

func TestP24_2ByTriangles(t *testing.T) {
	total := [2]int{}
	nets(3000, func(r *rand.Rand, x net) {
		m := must(t, x.segs)
		var adjacent, contains [][2]int
		for a := range x.areas {
			for b := range x.areas {
				if a < b && x.meetAlone(a, b) {
					adjacent = append(adjacent, [2]int{a, b})
				}
				if a != b && x.holdsAll(a, b) {
					contains = append(contains, [2]int{a, b})
				}
			}
		}
		if got := Adjacent(m); !slices.Equal(got, adjacent) {
			t.Fatalf("Adjacent(%v) is %v, not %v", m, got, adjacent)
		}
		if got := Contains(m); !slices.Equal(got, contains) {
			t.Fatalf("Contains(%v) is %v, not %v", m, got, contains)
		}
		total[0] += len(adjacent)
		total[1] += len(contains)
	})
	if total[0] < 1000 || total[1] < 100 {
		t.Errorf("there are only %v pairs", total)
	}
}

func sameRings(a, b [][]api.Point) bool {
	return slices.EqualFunc(a, b, func(x, y []api.Point) bool { return slices.Equal(x, y) })
}

// straight returns the ring without the points in the middle of its sides.
func straight(r []api.Point) (out []api.Point) {
	for i, p := range r {
		if turn(r[(i+len(r)-1)%len(r)], p, r[(i+1)%len(r)]) != 0 {
			out = append(out, p)
		}
	}
	return out
}

func TestP24_4Rings(t *testing.T) {
	nets(2000, func(r *rand.Rand, x net) {
		m := must(t, x.segs)
		for area := -1; area <= x.areas; area++ {
			got := Rings(m, area)
			var whole [][]api.Point
			if area >= 0 && area < x.areas {
				whole, _ = trace.Rings(x.segs[area])
			}
			var a, b [][]api.Point
			for _, l := range got {
				a = append(a, straight(l))
			}
			for _, l := range whole {
				b = append(b, straight(l))
			}
			if !sameRings(a, b) {
				t.Fatalf("Rings(%v, %d) is %v, not %v", m, area, got, whole)
			}
		}
	})
}

// divided returns the segments, some of them cut at a point in the middle.
func divided(r *rand.Rand, l []api.Seg) (out []api.Seg) {
	for _, s := range l {
		mid := at((s.A.X+s.B.X)/2, (s.A.Y+s.B.Y)/2)
		if (s.A.X+s.B.X)%2 == 0 && (s.A.Y+s.B.Y)%2 == 0 && r.Intn(2) == 0 {
			out = append(out, api.Seg{A: mid, B: s.A}, segOf(mid, s.B))
		} else {
			out = append(out, s)
		}
	}
	return out
}

func TestP24_4Division(t *testing.T) {
	nets(2000, func(r *rand.Rand, x net) {
		m := must(t, x.segs)
		var l [][]api.Seg
		for _, s := range x.segs {
			l = append(l, divided(r, s))
		}
		cut := must(t, l)
		if len(cut) < len(m) || Check(cut) != api.OK {
			t.Fatalf("the mesh of divided segments %v is %v", l, cut)
		}
		if !slices.Equal(Adjacent(m), Adjacent(cut)) || !slices.Equal(Contains(m), Contains(cut)) {
			t.Fatalf("the pairs of %v and %v differ", m, cut)
		}
	})
}

func TestP24_2Rings(t *testing.T) {
	a := []int{0}
	m := []api.Edge{edge(0, 0, 0, 4, nil, a), edge(0, 0, 4, 0, a, nil), edge(0, 4, 4, 4, nil, a), edge(4, 0, 4, 4, a, nil)}
	want := [][]api.Point{ring(0, 0, 4, 0, 4, 4, 0, 4)}
	if got := Rings(m, 0); !sameRings(got, want) {
		t.Errorf("Rings is %v, not %v", got, want)
	}
	for _, area := range []int{1, -1, math.MinInt, math.MaxInt} {
		if got := Rings(m, area); len(got) > 0 {
			t.Errorf("Rings of area %d is %v", area, got)
		}
	}
	// Edges with the area on both sides do not count, and the sides need not be right nor in order.
	more := append(slices.Clone(m), edge(1, 1, 2, 2, []int{5, 0, 0}, a), edge(3, 3, 3, 3, a, nil))
	more[0].Left, more[0].Right = []int{7, 0, 7}, nil
	if got := Rings(more, 0); !sameRings(got, want) {
		t.Errorf("Rings is %v, not %v", got, want)
	}
	more[4].Right = nil
	for _, l := range [][]api.Edge{m[1:], more, nil} {
		if got := Rings(l, 0); len(got) > 0 {
			t.Errorf("Rings(%v) is %v, not nil", l, got)
		}
	}
}

func TestP24_2Pairs(t *testing.T) {
	for _, x := range []struct {
		name     string
		m        []api.Edge
		adjacent [][2]int
		contains [][2]int
	}{
		{"none", nil, nil, nil},
		{"one area", []api.Edge{edge(0, 0, 1, 1, []int{3}, nil)}, nil, nil},
		{"no area", []api.Edge{edge(0, 0, 1, 1, nil, nil)}, nil, nil},
		{"beside", []api.Edge{edge(0, 0, 1, 1, []int{3}, []int{1})}, [][2]int{{1, 3}}, nil},
		{"beside, twice", []api.Edge{edge(0, 0, 1, 1, []int{3}, []int{1}), edge(2, 2, 3, 3, []int{1}, []int{3})}, [][2]int{{1, 3}}, nil},
		{"on one side", []api.Edge{edge(0, 0, 1, 1, []int{1, 3}, nil)}, nil, [][2]int{{1, 3}, {3, 1}}},
		{"on both sides", []api.Edge{edge(0, 0, 1, 1, []int{1, 3}, []int{1, 3})}, nil, [][2]int{{1, 3}, {3, 1}}},
		{"in one", []api.Edge{edge(0, 0, 1, 1, []int{1, 3}, []int{1})}, nil, [][2]int{{1, 3}}},
		{"beside in one", []api.Edge{edge(0, 0, 1, 1, []int{1, 3}, []int{1, 2})}, [][2]int{{2, 3}}, [][2]int{{1, 2}, {1, 3}}},
		{"two and two", []api.Edge{edge(0, 0, 1, 1, []int{1, 4}, []int{2, 3})}, [][2]int{{1, 2}, {1, 3}, {2, 4}, {3, 4}}, [][2]int{{1, 4}, {2, 3}, {3, 2}, {4, 1}}},
		{"not everywhere", []api.Edge{edge(0, 0, 1, 1, []int{1, 3}, nil), edge(1, 1, 2, 2, nil, []int{3})}, nil, [][2]int{{3, 1}}},
		{"not on the other side", []api.Edge{edge(0, 0, 1, 1, []int{1, 3}, []int{3})}, nil, [][2]int{{3, 1}}},
		{"out of order", []api.Edge{edge(0, 0, 0, 0, []int{9, 5, 9, -2}, []int{7, 9, 7})}, [][2]int{{-2, 7}, {5, 7}}, [][2]int{{-2, 5}, {5, -2}, {9, -2}, {9, 5}, {9, 7}}},
		{"extremes", []api.Edge{edge(0, 0, 1, 1, []int{math.MaxInt}, []int{math.MinInt})}, [][2]int{{math.MinInt, math.MaxInt}}, nil},
	} {
		if got := Adjacent(x.m); !slices.Equal(got, x.adjacent) {
			t.Errorf("Adjacent of %s is %v, not %v", x.name, got, x.adjacent)
		}
		if got := Contains(x.m); !slices.Equal(got, x.contains) {
			t.Errorf("Contains of %s is %v, not %v", x.name, got, x.contains)
		}
	}
}

// copyMesh returns a mesh without common memory.
func copyMesh(m []api.Edge) (out []api.Edge) {
	for _, e := range m {
		e.Left, e.Right = slices.Clone(e.Left), slices.Clone(e.Right)
		out = append(out, e)
	}
	return out
}

func TestP24_3Check(t *testing.T) {
	good := must(t, [][]api.Seg{sides4(0, 0, 9, 9), sides4(2, 2, 4, 4), nil, sides4(9, 2, 4, 4)})
	for _, x := range []struct {
		name   string
		change func(m []api.Edge) []api.Edge
		want   api.Errno
	}{
		{"nothing", func(m []api.Edge) []api.Edge { return m }, api.OK},
		{"all edges left out", func(m []api.Edge) []api.Edge { return nil }, api.OK},
		{"a point beyond the grid", func(m []api.Edge) []api.Edge { m[len(m)-1].B.X = api.Side; return m }, api.ErrOrder},
		{"a negative point", func(m []api.Edge) []api.Edge { m[0].A.X = -1; return m }, api.ErrOrder},
		{"ends exchanged", func(m []api.Edge) []api.Edge { m[0].A, m[0].B = m[0].B, m[0].A; return m }, api.ErrOrder},
		{"equal ends", func(m []api.Edge) []api.Edge { m[0].B = m[0].A; return m }, api.ErrOrder},
		{"edges exchanged", func(m []api.Edge) []api.Edge { m[0], m[1] = m[1], m[0]; return m }, api.ErrOrder},
		{"last edges exchanged", func(m []api.Edge) []api.Edge {
			n := len(m)
			m[n-1], m[n-2] = m[n-2], m[n-1]
			return m
		}, api.ErrOrder},
		{"an edge twice", func(m []api.Edge) []api.Edge { return slices.Insert(m, 1, m[0]) }, api.ErrOrder},
		{"areas exchanged", func(m []api.Edge) []api.Edge { m[0].Left = []int{1, 0}; return m }, api.ErrOrder},
		{"areas on the right exchanged", func(m []api.Edge) []api.Edge { m[0].Right = []int{1, 0}; return m }, api.ErrOrder},
		{"an area twice", func(m []api.Edge) []api.Edge { m[0].Right = []int{0, 0}; return m }, api.ErrOrder},
		{"a negative area", func(m []api.Edge) []api.Edge { m[0].Left = []int{-1}; return m }, api.ErrOrder},
		{"a negative area on the right", func(m []api.Edge) []api.Edge { m[0].Right = []int{-1, 0}; return m }, api.ErrOrder},
		{"the area 20000", func(m []api.Edge) []api.Edge { m[0].Left = []int{20000}; return m }, api.ErrOrder},
		{"the area 19999", func(m []api.Edge) []api.Edge { m[0].Left = []int{19999}; return m }, api.ErrForm},
		{"an edge that crosses", func(m []api.Edge) []api.Edge {
			return slices.Insert(m, 3, edge(1, 1, 5, 1, nil, nil), edge(1, 2, 4, 0, nil, nil))
		}, api.ErrCross},
		{"an edge that ends within another", func(m []api.Edge) []api.Edge { return slices.Insert(m, 3, edge(1, 0, 1, 1, nil, nil)) }, api.ErrCross},
		{"an edge that overlaps", func(m []api.Edge) []api.Edge { return slices.Insert(m, 1, edge(0, 0, 5, 0, nil, nil)) }, api.ErrCross},
		{"a crossing edge and a wrong order", func(m []api.Edge) []api.Edge {
			m = slices.Insert(m, 3, edge(1, 0, 1, 1, nil, nil))
			m[9].Left = []int{20000}
			return m
		}, api.ErrOrder},
		{"an edge without areas", func(m []api.Edge) []api.Edge { return slices.Insert(m, 3, edge(1, 1, 1, 2, nil, nil)) }, api.ErrForm},
		{"an edge within an area", func(m []api.Edge) []api.Edge {
			return slices.Insert(m, 3, edge(1, 1, 1, 2, []int{0}, []int{0}))
		}, api.ErrForm},
		{"an edge left out", func(m []api.Edge) []api.Edge { return m[1:] }, api.ErrForm},
		{"sides exchanged", func(m []api.Edge) []api.Edge { m[0].Left, m[0].Right = m[0].Right, m[0].Left; return m }, api.ErrForm},
		{"all sides exchanged", func(m []api.Edge) []api.Edge {
			for i := range m {
				m[i].Left, m[i].Right = m[i].Right, m[i].Left
			}
			return m
		}, api.ErrForm},
		{"a containing area left out", func(m []api.Edge) []api.Edge { m[3].Left, m[3].Right = nil, []int{1}; return m }, api.ErrForm},
		{"an area without a boundary", func(m []api.Edge) []api.Edge {
			for i := range m {
				m[i].Left, m[i].Right = append(m[i].Left, 7), append(m[i].Right, 7)
			}
			return m
		}, api.ErrForm},
		{"an area of one edge", func(m []api.Edge) []api.Edge { m[0].Left = append(m[0].Left, 7); return m }, api.ErrForm},
		{"a point moved", func(m []api.Edge) []api.Edge { m[len(m)-1].B.Y--; return m }, api.ErrForm},
	} {
		if got := Check(x.change(copyMesh(good))); got != x.want {
			t.Errorf("Check with %s is %d, not %d", x.name, got, x.want)
		}
	}
}

// A change of one side or end in a mesh is not accepted, unless it leads to the mesh of other areas.
func TestP24_3Changes(t *testing.T) {
	nets(1000, func(r *rand.Rand, x net) {
		m := must(t, x.segs)
		if len(m) == 0 {
			return
		}
		bad := copyMesh(m)
		e := &bad[r.Intn(len(m))]
		switch area := r.Intn(6); r.Intn(3) {
		case 0:
			e.Left, e.Right = e.Right, e.Left
		case 1:
			e.Left = differ(e.Left, []int{area})
		case 2:
			e.Right = differ(e.Right, []int{area})
		}
		if Check(bad) != api.ErrForm {
			t.Fatalf("Check(%v) is %d", bad, Check(bad))
		}
		if Same(m, bad) || Same(bad, m) || !Same(m, copyMesh(m)) {
			t.Fatalf("Same of %v and %v is wrong", m, bad)
		}
	})
}

func TestP24_3Same(t *testing.T) {
	base := []api.Edge{edge(0, 0, 1, 1, []int{1, 2}, nil), edge(2, 2, 3, 3, nil, []int{5})}
	if !Same(base, copyMesh(base)) || !Same(nil, []api.Edge{}) {
		t.Error("Same of equal meshes is false")
	}
	if !Same(base, []api.Edge{edge(0, 0, 1, 1, []int{1, 2}, []int{}), edge(2, 2, 3, 3, []int{}, []int{5})}) {
		t.Error("Same with empty lists instead of nil is false")
	}
	for i, change := range []func(m []api.Edge) []api.Edge{
		func(m []api.Edge) []api.Edge { m[1].A.X++; return m },
		func(m []api.Edge) []api.Edge { m[1].B.Y++; return m },
		func(m []api.Edge) []api.Edge { m[0].Left = []int{1}; return m },
		func(m []api.Edge) []api.Edge { m[0].Left = []int{2, 1}; return m },
		func(m []api.Edge) []api.Edge { m[1].Right = []int{6}; return m },
		func(m []api.Edge) []api.Edge { m[1].Left = []int{6}; return m },
		func(m []api.Edge) []api.Edge { return m[:1] },
		func(m []api.Edge) []api.Edge { return append(m, m[0]) },
		func(m []api.Edge) []api.Edge { m[0], m[1] = m[1], m[0]; return m },
		func(m []api.Edge) []api.Edge { return nil },
	} {
		if m := change(copyMesh(base)); Same(base, m) || Same(m, base) {
			t.Errorf("Same after change %d is true", i)
		}
	}
}

// Many squares in rows: neighbours are adjacent, and none contains another.
func TestP24_1Large(t *testing.T) {
	const n = 40
	var l [][]api.Seg
	for i := range n * n {
		x, y := 800*(i%n), 800*(i/n)
		l = append(l, sides4(x, y, 800, 800))
	}
	l = append(l, sides4(0, 0, 800*n, 800*n))
	m := must(t, l)
	if len(m) != 2*n*(n+1) || Check(m) != api.OK {
		t.Errorf("there are %d edges", len(m))
	}
	if got := Adjacent(m); len(got) != 2*n*(n-1) {
		t.Errorf("there are %d adjacent pairs", len(got))
	}
	if got := Contains(m); len(got) != n*n || got[0] != [2]int{n * n, 0} {
		t.Errorf("there are %d contained squares", len(got))
	}
}

func TestP24_Aliasing(t *testing.T) {
	spare := segs(7, 7, 8, 8)[0]
	given := append(slices.Concat(sides4(0, 0, 4, 4)), spare)
	given[0].A, given[0].B = given[0].B, given[0].A
	saved := slices.Clone(given)
	l := [][]api.Seg{given[:4], sides4(4, 0, 4, 4), {spare}}[:2]
	m := must(t, l)
	if !slices.Equal(given, saved) || len(l[:3][2]) != 1 {
		t.Error("Build changes its argument")
	}
	want := copyMesh(m)
	clear(given)
	for i := range m {
		_ = append(m[i].Left, 77)
		_ = append(m[i].Right, 77)
	}
	if !equal(m, want) {
		t.Error("the lists of a mesh share memory")
	}
	left := append([]int{3, 1}, 77)
	odd := append([]api.Edge{edge(0, 0, 4, 4, left[:2], []int{9, 1})}, edge(5, 5, 6, 6, nil, nil))
	Adjacent(odd[:1])
	Contains(odd[:1])
	Check(odd[:1])
	Rings(odd[:1], 3)
	Same(odd[:1], odd[:1])
	if !slices.Equal(left, []int{3, 1, 77}) || odd[1].A != at(5, 5) || !slices.Equal(odd[0].Right, []int{9, 1}) {
		t.Error("an argument is changed")
	}
	pts := append(ring(0, 0, 4, 0, 4, 4), at(77, 77))
	if _, err := OfAreas([]api.Area{{Rings: [][]api.Point{pts[:3]}}}); err != api.OK || !slices.Equal(pts, ring(0, 0, 4, 0, 4, 4, 77, 77)) {
		t.Error("OfAreas changes its argument")
	}
	r := Rings(m, 0)
	clear(m)
	if !sameRings(r, [][]api.Point{ring(0, 0, 4, 0, 4, 4, 0, 4)}) {
		t.Error("the rings share memory with the mesh")
	}
}
