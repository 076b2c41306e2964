package trace

import (
	"cmp"
	"math"
	"math/big"
	"math/rand"
	"slices"
	"testing"

	"mapmaker/api"
	"mapmaker/poly"
)

func at(x, y int) api.Point { return api.Point{X: x, Y: y} }

// pts returns the points whose X and Y are given in turn.
func pts(l ...int) (out []api.Point) {
	for i := 0; i < len(l); i += 2 {
		out = append(out, at(l[i], l[i+1]))
	}
	return out
}

func before(a, b api.Point) bool { return a.X < b.X || a.X == b.X && a.Y < b.Y }

func segOf(a, b api.Point) api.Seg {
	if before(b, a) {
		a, b = b, a
	}
	return api.Seg{A: a, B: b}
}

// sides returns the segments of a ring.
func sides(l ...int) (out []api.Seg) {
	r := pts(l...)
	for i := range r {
		out = append(out, segOf(r[i], r[(i+1)%len(r)]))
	}
	return out
}

func segs(l ...int) (out []api.Seg) {
	for i := 0; i < len(l); i += 4 {
		out = append(out, api.Seg{A: at(l[i], l[i+1]), B: at(l[i+2], l[i+3])})
	}
	return out
}

func equal(a, b [][]api.Point) bool {
	return slices.EqualFunc(a, b, func(x, y []api.Point) bool { return slices.Equal(x, y) })
}

// ignored has segments that are not counted: their ends are equal or not on the grid.
var ignored = segs(2, 2, 2, 2, -1, 0, 4, 4, 0, 0, api.Side, 3, 0, 0, 0, api.Side, math.MinInt, 0, math.MaxInt, 0)

func TestP21_1Check(t *testing.T) {
	square := sides(0, 0, 8, 0, 8, 8, 0, 8)
	last := api.Side - 1
	for _, x := range []struct {
		name string
		l    []api.Seg
		want api.Errno
	}{
		{"none", nil, api.ErrEmpty},
		{"none that counts", ignored, api.ErrEmpty},
		{"a square", square, api.OK},
		{"a square with ignored ones", slices.Concat(ignored, square), api.OK},
		{"a square twice", slices.Concat(square, square), api.OK},
		{"the whole grid", sides(0, 0, last, 0, last, last, 0, last), api.OK},
		{"a segment", segs(0, 0, 4, 4), api.ErrOpen},
		{"a side missing", square[1:], api.ErrOpen},
		{"three at a point", slices.Concat(square, segs(0, 0, 4, 4)), api.ErrOpen},
		{"a diagonal", slices.Concat(square, segs(0, 0, 8, 8)), api.ErrOpen},
		{"two diagonals", slices.Concat(square, segs(0, 0, 8, 8, 0, 8, 8, 0)), api.ErrCross},
		{"a crossing and open", slices.Concat(square, segs(4, 4, 12, 4)), api.ErrCross},
		{"an end within a side", slices.Concat(square, segs(8, 4, 12, 4)), api.ErrCross},
		{"an overlap", slices.Concat(square, sides(8, 2, 8, 6, 12, 4)), api.ErrCross},
		{"a side in common", slices.Concat(square, sides(8, 0, 16, 0, 16, 8, 8, 8)), api.ErrOpen},
		{"a square that crosses another", slices.Concat(square, sides(4, 4, 12, 4, 12, 12, 4, 12)), api.ErrCross},
		{"a point in common", slices.Concat(square, sides(8, 8, 12, 8, 12, 12)), api.OK},
		{"a touching corner within a side", slices.Concat(square, sides(8, 4, 12, 4, 12, 6)), api.ErrCross},
	} {
		if err := Check(x.l); err != x.want {
			t.Errorf("Check of %s is %d, not %d", x.name, err, x.want)
		}
		rings, err := Rings(x.l)
		if err != x.want || (err == api.OK) != (len(rings) > 0) {
			t.Errorf("Rings of %s is %v, %d, not error %d", x.name, rings, err, x.want)
		}
	}
}

func TestP21_1Where(t *testing.T) {
	l := slices.Concat(sides(0, 0, 12, 0, 12, 12, 0, 12), sides(4, 4, 8, 4, 8, 8, 4, 8))
	for _, x := range []struct{ x, y, want int }{
		{2, 2, api.Inside}, {2, 6, api.Inside}, {2, 4, api.Inside}, {2, 8, api.Inside}, {10, 4, api.Inside}, {10, 8, api.Inside}, {6, 10, api.Inside},
		{6, 6, api.Outside}, {13, 6, api.Outside}, {13, 0, api.Outside}, {6, 13, api.Outside},
		{0, 0, api.On}, {12, 12, api.On}, {6, 0, api.On}, {4, 6, api.On}, {4, 4, api.On},
		{-1, 6, api.Outside}, {6, -1, api.Outside}, {api.Side, 6, api.Outside}, {math.MinInt, math.MaxInt, api.Outside},
	} {
		if n := Where(l, at(x.x, x.y)); n != x.want {
			t.Errorf("Where of %d %d is %d, not %d", x.x, x.y, n, x.want)
		}
	}
	// Segments need not bound an area, and those that are ignored do not count, nor do repetitions.
	open := slices.Concat(segs(5, 9, 5, 1), segs(5, 1, 5, 9), ignored)
	for _, x := range []struct{ x, y, want int }{{4, 5, api.Inside}, {5, 5, api.On}, {6, 5, api.Outside}, {4, 1, api.Inside}, {4, 9, api.Outside}, {4, 0, api.Outside}, {2, 2, api.Inside}} {
		if n := Where(open, at(x.x, x.y)); n != x.want {
			t.Errorf("Where of %d %d and one segment is %d, not %d", x.x, x.y, n, x.want)
		}
	}
	if n := Where(nil, at(1, 1)); n != api.Outside {
		t.Errorf("Where of no segments is %d", n)
	}
}

// whereByRatios is Where with the crossings computed as fractions.
func whereByRatios(l []api.Seg, p api.Point) int {
	seen := map[api.Seg]bool{}
	count := 0
	for _, s := range l {
		s = segOf(s.A, s.B)
		if seen[s] || s.A == s.B {
			continue
		}
		seen[s] = true
		if s.A.Y == s.B.Y {
			if p.Y == s.A.Y && s.A.X <= p.X && p.X <= s.B.X {
				return api.On
			}
			continue
		}
		if p.Y < min(s.A.Y, s.B.Y) || p.Y > max(s.A.Y, s.B.Y) {
			continue
		}
		x := big.NewRat(int64((p.Y-s.A.Y)*(s.B.X-s.A.X)), int64(s.B.Y-s.A.Y))
		x.Add(x, big.NewRat(int64(s.A.X-p.X), 1))
		if x.Sign() == 0 {
			return api.On
		}
		if x.Sign() > 0 && (s.A.Y > p.Y) != (s.B.Y > p.Y) {
			count++
		}
	}
	return []int{api.Outside, api.Inside}[count%2]
}

func TestP21_1WhereByRatios(t *testing.T) {
	r := rand.New(rand.NewSource(1))
	for i := range 30000 {
		size := []int{5, 9, api.Side}[i%3]
		var l []api.Seg
		for range 1 + r.Intn(8) {
			l = append(l, api.Seg{A: at(r.Intn(size), r.Intn(size)), B: at(r.Intn(size), r.Intn(size))})
		}
		p := at(r.Intn(size), r.Intn(size))
		if got, want := Where(l, p), whereByRatios(l, p); got != want {
			t.Fatalf("Where(%v, %v) is %d, not %d", l, p, got, want)
		}
	}
}

// A region is a set of triangles of a net: every cell of a grid is divided by one of its diagonals, and the grid is mapped to the plane by a linear map, so that segments have many directions.
type region struct {
	segs  []api.Seg          // the boundary
	left  map[api.Seg]bool   // for its segments: whether the interior is left
	parts map[api.Point]bool // the centers of all triangles: whether they are inside
	area2 int
}

// maps are linear maps with a translation to the grid; the determinants are of both signs. All are multiples of 3, so that centers are points.
var maps = [][6]int{{3, 0, 0, 0, 3, 0}, {6, 3, 0, 3, 9, 0}, {0, 3, 0, 3, 0, 0}, {9, -3, 60, 6, 6, 0}, {-3, 3, 90, -3, -6, 120}, {3, 30, 0, 0, -3, 60}}

func mapped(m [6]int, x, y int) api.Point {
	return at(m[0]*x+m[1]*y+m[2], m[3]*x+m[4]*y+m[5])
}

func cross(a, b, c api.Point) int {
	return (b.X-a.X)*(c.Y-a.Y) - (b.Y-a.Y)*(c.X-a.X)
}

// randomRegion returns a region of a net with n by n cells.
func randomRegion(r *rand.Rand, n int, m [6]int, density int) region {
	x := region{left: map[api.Seg]bool{}, parts: map[api.Point]bool{}}
	count := map[api.Seg]int{}
	add := func(a, b, c api.Point) {
		in := r.Intn(100) < density
		x.parts[at((a.X+b.X+c.X)/3, (a.Y+b.Y+c.Y)/3)] = in
		if !in {
			return
		}
		turn := cross(a, b, c)
		x.area2 += max(turn, -turn)
		for _, e := range [][3]api.Point{{a, b, c}, {b, c, a}, {c, a, b}} {
			s := segOf(e[0], e[1])
			count[s]++
			x.left[s] = cross(s.A, s.B, e[2]) > 0
		}
	}
	for i := range n {
		for j := range n {
			a, b, c, d := mapped(m, i, j), mapped(m, i+1, j), mapped(m, i+1, j+1), mapped(m, i, j+1)
			if r.Intn(2) == 0 {
				a, b, c, d = b, c, d, a
			}
			add(a, b, c)
			add(a, c, d)
		}
	}
	for s, k := range count {
		if k == 1 {
			x.segs = append(x.segs, s)
		} else {
			delete(x.left, s)
		}
	}
	slices.SortFunc(x.segs, func(a, b api.Seg) int {
		if before(a.A, b.A) || a.A == b.A && before(a.B, b.B) {
			return -1
		}
		return 1
	})
	return x
}

// regions calls see with random regions that are not empty.
func regions(n int, see func(r *rand.Rand, x region)) {
	r := rand.New(rand.NewSource(2))
	for i := range n {
		x := randomRegion(r, 1+r.Intn(6), maps[i%len(maps)], []int{10, 30, 50, 80, 95, 100}[r.Intn(6)])
		if len(x.segs) > 0 {
			see(r, x)
		}
	}
}

func TestP21_1LeftInside(t *testing.T) {
	regions(500, func(r *rand.Rand, x region) {
		for s, want := range x.left {
			if got := LeftInside(x.segs, s); got != want {
				t.Fatalf("LeftInside(%v, %v) is %v", x.segs, s, got)
			}
			if LeftInside(x.segs, api.Seg{A: s.B, B: s.A}) {
				t.Fatalf("LeftInside of %v from its greater end is true", s)
			}
		}
		for p, in := range x.parts {
			want := api.Outside
			if in {
				want = api.Inside
			}
			if got := Where(x.segs, p); got != want {
				t.Fatalf("Where(%v, %v) is %d, not %d", x.segs, p, got, want)
			}
		}
	})
}

func TestP21_1LeftInsideOthers(t *testing.T) {
	square := sides(0, 0, 8, 0, 8, 8, 0, 8)
	if !LeftInside(square, segs(0, 0, 8, 0)[0]) || LeftInside(square, segs(0, 8, 8, 8)[0]) || LeftInside(square, segs(0, 0, 0, 8)[0]) || !LeftInside(square, segs(8, 0, 8, 8)[0]) {
		t.Error("LeftInside of the sides of a square")
	}
	for _, s := range slices.Concat(ignored, segs(0, 0, 4, 0, 0, 0, 8, 8, 3, 4, 5, 4)) {
		if LeftInside(square, s) {
			t.Errorf("LeftInside of %v, which is no side of the square, is true", s)
		}
		if LeftInside(append(slices.Clone(square), s), s) {
			t.Errorf("LeftInside of %v in a set that Check rejects, or that ignores it, is true", s)
		}
	}
	if LeftInside(square[:3], square[0]) || LeftInside(nil, square[0]) || LeftInside(nil, api.Seg{}) {
		t.Error("LeftInside in a set that Check rejects is true")
	}
	// The middle of the side 5 0 - 8 3 has halves as coordinates.
	narrow := sides(5, 0, 8, 3, 7, 3)
	if !LeftInside(narrow, segs(5, 0, 8, 3)[0]) || LeftInside(narrow, segs(5, 0, 7, 3)[0]) {
		t.Error("LeftInside of the sides of a narrow triangle")
	}
	// The ray from the middle of the left side passes over corners of others.
	teeth := slices.Concat(sides(0, 0, 0, 4, 1, 2), sides(3, 2, 4, 0, 4, 4), sides(6, 2, 8, 2, 8, 4), sides(9, 0, 10, 2, 11, 0))
	if LeftInside(teeth, segs(0, 0, 0, 4)[0]) || !LeftInside(teeth, segs(4, 0, 4, 4)[0]) || !LeftInside(teeth, segs(6, 2, 8, 2)[0]) {
		t.Error("LeftInside of triangles with corners on one line")
	}
}

// ringsByAngles follows the directed segments by their angles, which are computed with floating-point numbers, and divides the rings where a point first occurs again.
func ringsByAngles(x region) [][]api.Point {
	next := map[api.Seg]api.Seg{}
	var directed []api.Seg
	for _, s := range x.segs {
		if !x.left[s] {
			s.A, s.B = s.B, s.A
		}
		directed = append(directed, s)
	}
	for _, s := range directed {
		back := math.Atan2(float64(s.A.Y-s.B.Y), float64(s.A.X-s.B.X))
		least := math.Inf(1)
		for _, o := range directed {
			if o.A != s.B {
				continue
			}
			angle := back - math.Atan2(float64(o.B.Y-o.A.Y), float64(o.B.X-o.A.X))
			for angle <= 0 {
				angle += 2 * math.Pi
			}
			if angle < least {
				least, next[s] = angle, o
			}
		}
	}
	var rings [][]api.Point
	used := map[api.Seg]bool{}
	for _, s := range directed {
		var ring []api.Point
		for ; !used[s]; s = next[s] {
			used[s] = true
			ring = append(ring, s.A)
		}
		if len(ring) > 0 {
			rings = append(rings, halves(ring)...)
		}
	}
	for i, ring := range rings {
		least := 0
		for k := range ring {
			if before(ring[k], ring[least]) {
				least = k
			}
		}
		rings[i] = slices.Concat(ring[least:], ring[:least])
	}
	slices.SortFunc(rings, func(a, b []api.Point) int {
		return slices.CompareFunc(a, b, comparePoints)
	})
	return rings
}

func comparePoints(p, q api.Point) int {
	return cmp.Or(cmp.Compare(p.X, q.X), cmp.Compare(p.Y, q.Y))
}

// halves divides a ring into two at the last pair of equal points, and these again.
func halves(ring []api.Point) [][]api.Point {
	for i := len(ring) - 1; i >= 0; i-- {
		for j := i - 1; j >= 0; j-- {
			if ring[i] == ring[j] {
				return append(halves(ring[j:i]), halves(slices.Concat(ring[:j], ring[i:]))...)
			}
		}
	}
	return [][]api.Point{ring}
}

func must(t *testing.T, l []api.Seg) [][]api.Point {
	t.Helper()
	rings, err := Rings(l)
	if err != api.OK {
		t.Fatalf("Rings(%v) returns %d", l, err)
	}
	return rings
}

func TestP21_2Examples(t *testing.T) {
	for _, x := range []struct {
		name string
		l    []api.Seg
		want [][]api.Point
	}{
		{"a square in a square", slices.Concat(sides(0, 0, 9, 0, 9, 9, 0, 9), sides(3, 3, 6, 3, 6, 6, 3, 6)), [][]api.Point{pts(0, 0, 9, 0, 9, 9, 0, 9), pts(3, 3, 3, 6, 6, 6, 6, 3)}},
		{"a clockwise triangle", sides(0, 0, 0, 4, 4, 4), [][]api.Point{pts(0, 0, 4, 4, 0, 4)}},
		{"points on a side", sides(0, 0, 2, 0, 4, 0, 4, 4), [][]api.Point{pts(0, 0, 2, 0, 4, 0, 4, 4)}},
		{"squares with a corner in common", slices.Concat(sides(0, 0, 4, 0, 4, 4, 0, 4), sides(4, 4, 8, 4, 8, 8, 4, 8)), [][]api.Point{pts(0, 0, 4, 0, 4, 4, 0, 4), pts(4, 4, 8, 4, 8, 8, 4, 8)}},
		{"a hole with a corner of the boundary", slices.Concat(sides(0, 0, 8, 0, 8, 8, 0, 8), sides(0, 0, 4, 2, 2, 4)), [][]api.Point{pts(0, 0, 2, 4, 4, 2), pts(0, 0, 8, 0, 8, 8, 0, 8)}},
		{"two holes with a corner in common", slices.Concat(sides(0, 0, 9, 0, 9, 9, 0, 9), sides(1, 1, 4, 4, 1, 4), sides(4, 4, 7, 4, 7, 7)), [][]api.Point{pts(0, 0, 9, 0, 9, 9, 0, 9), pts(1, 1, 1, 4, 4, 4), pts(4, 4, 7, 7, 7, 4)}},
		{"the outline of a hole that touches two corners", slices.Concat(sides(0, 0, 8, 0, 8, 8, 0, 8), sides(0, 0, 6, 2, 8, 8, 2, 6)), [][]api.Point{pts(0, 0, 2, 6, 8, 8, 0, 8), pts(0, 0, 8, 0, 8, 8, 6, 2)}},
	} {
		if got := must(t, x.l); !equal(got, x.want) {
			t.Errorf("Rings of %s is %v, not %v", x.name, got, x.want)
		}
	}
}

func TestP21_2ByAngles(t *testing.T) {
	divided := 0
	regions(3000, func(r *rand.Rand, x region) {
		got, want := must(t, x.segs), ringsByAngles(x)
		if !equal(got, want) {
			t.Fatalf("Rings(%v) is %v, not %v", x.segs, got, want)
		}
		ends := map[api.Point]int{}
		for _, s := range x.segs {
			ends[s.A]++
			ends[s.B]++
		}
		for _, n := range ends {
			if n > 2 {
				divided++
			}
		}
	})
	if divided < 3000 {
		t.Errorf("only %d points have more than two segments", divided)
	}
}

// star returns triangles that have a corner in common and nothing else, in any directions and lengths, counterclockwise.
func star(r *rand.Rand, n int) (out [][]api.Point) {
	center := at(500, 500)
	var rays []api.Point
	for len(rays) < 2*n {
		p := at(500+r.Intn(801)-400, 500+r.Intn(801)-400)
		if r.Intn(2) == 0 {
			p = at(500+r.Intn(9)-4, 500+r.Intn(9)-4)
		}
		same := func(q api.Point) bool { return cross(center, p, q) == 0 && (p.X-500)*(q.X-500)+(p.Y-500)*(q.Y-500) > 0 }
		if p != center && !slices.ContainsFunc(rays, same) {
			rays = append(rays, p)
		}
	}
	angle := func(p api.Point) float64 { return math.Atan2(float64(p.Y-500), float64(p.X-500)) }
	slices.SortFunc(rays, func(p, q api.Point) int { return cmp.Compare(angle(p), angle(q)) })
	for i := 0; i < len(rays); i += 2 {
		if cross(center, rays[i], rays[i+1]) > 0 {
			out = append(out, []api.Point{center, rays[i], rays[i+1]})
		}
	}
	return out
}

func TestP21_2ManyAtAPoint(t *testing.T) {
	r := rand.New(rand.NewSource(3))
	frame := pts(0, 0, 1000, 0, 1000, 1000, 0, 1000)
	for range 2000 {
		triangles := star(r, 1+r.Intn(12))
		if len(triangles) == 0 {
			continue
		}
		var outer, holes [][]api.Point
		l := []api.Seg{}
		for _, x := range triangles {
			l = append(l, segOf(x[0], x[1]), segOf(x[1], x[2]), segOf(x[2], x[0]))
			outer, holes = append(outer, poly.Canon(x)), append(holes, poly.Canon(poly.Reverse(x)))
		}
		holes = append(holes, frame)
		r.Shuffle(len(l), func(i, j int) { l[i], l[j] = l[j], l[i] })
		framed := append(sides(0, 0, 1000, 0, 1000, 1000, 0, 1000), l...)
		for _, x := range []struct {
			l    []api.Seg
			want [][]api.Point
		}{{l, outer}, {framed, holes}} {
			slices.SortFunc(x.want, func(a, b []api.Point) int { return slices.CompareFunc(a, b, comparePoints) })
			if got := must(t, x.l); !equal(got, x.want) {
				t.Fatalf("Rings(%v) is %v, not %v", x.l, got, x.want)
			}
		}
	}
}

func TestP21_2NextSegment(t *testing.T) {
	r := rand.New(rand.NewSource(4))
	v := at(500, 500)
	for range 5000 {
		var ends []api.Point
		for _, x := range star(r, 1+r.Intn(6)) {
			ends = append(ends, x[1], x[2])
		}
		if len(ends) < 2 {
			continue
		}
		r.Shuffle(len(ends), func(i, j int) { ends[i], ends[j] = ends[j], ends[i] })
		u, ends := ends[0], ends[1:]
		if opposite := at(2*v.X-u.X, 2*v.Y-u.Y); r.Intn(3) == 0 && !slices.ContainsFunc(ends, func(p api.Point) bool { return cross(v, opposite, p) == 0 }) {
			ends = append(ends, opposite)
		}
		clockwise := func(p api.Point) float64 {
			angle := math.Atan2(float64(u.Y-v.Y), float64(u.X-v.X)) - math.Atan2(float64(p.Y-v.Y), float64(p.X-v.X))
			if angle < 0 {
				angle += 2 * math.Pi
			}
			return angle
		}
		want := slices.MinFunc(ends, func(p, q api.Point) int { return cmp.Compare(clockwise(p), clockwise(q)) })
		if got := (leaving{v: ends}).next(api.Seg{A: u, B: v}); got != want {
			t.Fatalf("from %v to %v a ring continues to %v, not %v, of %v", u, v, got, want, ends)
		}
	}
}

func TestP21_3EverySegmentOnce(t *testing.T) {
	regions(1500, func(r *rand.Rand, x region) {
		count := map[api.Seg]int{}
		sum := 0
		for _, ring := range must(t, x.segs) {
			if !poly.Simple(ring) {
				t.Fatalf("the ring %v of %v is not simple", ring, x.segs)
			}
			sum += poly.Area2(ring)
			for i, p := range ring {
				q := ring[(i+1)%len(ring)]
				s := segOf(p, q)
				count[s]++
				if x.left[s] != (s.A == p) {
					t.Fatalf("the interior is not left of %v in the ring %v of %v", s, ring, x.segs)
				}
			}
		}
		if sum != x.area2 {
			t.Fatalf("the rings of %v have the sum %d, not %d", x.segs, sum, x.area2)
		}
		if len(count) != len(x.segs) {
			t.Fatalf("%d of %d segments are in rings", len(count), len(x.segs))
		}
		for _, s := range x.segs {
			if count[s] != 1 {
				t.Fatalf("%v is in rings %d times", s, count[s])
			}
		}
	})
}

func TestP21_3OuterAndHoles(t *testing.T) {
	regions(1500, func(r *rand.Rand, x region) {
		for _, ring := range must(t, x.segs) {
			// The first point is the smallest one, so that the last point is on the side of the first segment that the ring encloses.
			s := segOf(ring[0], ring[1])
			within := (cross(s.A, s.B, ring[len(ring)-1]) > 0) == x.left[s]
			if within != (poly.Area2(ring) > 0) {
				t.Fatalf("the ring %v of %v has Area2 %d", ring, x.segs, poly.Area2(ring))
			}
		}
	})
}

func TestP21_3OnlyTheSetCounts(t *testing.T) {
	regions(1000, func(r *rand.Rand, x region) {
		l := slices.Concat(x.segs, ignored)
		for _, s := range x.segs {
			for range r.Intn(3) {
				l = append(l, s)
			}
		}
		r.Shuffle(len(l), func(i, j int) { l[i], l[j] = l[j], l[i] })
		for i := range l {
			if r.Intn(2) == 0 {
				l[i].A, l[i].B = l[i].B, l[i].A
			}
		}
		if got, want := must(t, l), must(t, x.segs); !equal(got, want) {
			t.Fatalf("Rings(%v) is %v, not %v", l, got, want)
		}
		s := x.segs[r.Intn(len(x.segs))]
		if LeftInside(l, s) != x.left[s] {
			t.Fatalf("LeftInside(%v, %v) is %v", l, s, !x.left[s])
		}
	})
}

func TestP21_3WholeGrid(t *testing.T) {
	last := api.Side - 1
	l := slices.Concat(sides(0, 0, last, 0, last, last, 0, last), sides(0, 0, last, last, 1, last))
	if err := Check(l); err != api.ErrCross {
		t.Errorf("Check with a point on the upper side is %d", err)
	}
	l = slices.Concat(sides(0, 0, last, 0, last, last, 1, last, 0, last), sides(0, 0, last, last, 2, last-1))
	want := [][]api.Point{pts(0, 0, 2, last-1, last, last, 1, last, 0, last), pts(0, 0, last, 0, last, last)}
	if got := must(t, l); !equal(got, want) {
		t.Errorf("Rings is %v, not %v", got, want)
	}
}

func TestP21_Aliasing(t *testing.T) {
	full := append(slices.Concat(sides(0, 0, 8, 0, 8, 8, 0, 8), sides(0, 0, 4, 2, 2, 4)), segs(7, 7, 7, 7, 5, 5, 6, 6)...)
	slices.Reverse(full[:7])
	full[0].A, full[0].B = full[0].B, full[0].A
	l := full[:7]
	saved := slices.Clone(full)
	Check(l)
	Where(l, at(3, 3))
	LeftInside(l, segs(0, 0, 8, 0)[0])
	rings := must(t, l)
	if !slices.Equal(full, saved) {
		t.Error("an argument is changed")
	}
	want := must(t, saved[:7])
	clear(full)
	for i := range rings {
		_ = append(rings[i], at(-7, -7))
	}
	if !equal(rings, want) {
		t.Error("the rings share memory")
	}
}
