package nest

import (
	"math"
	"math/big"
	"math/rand"
	"slices"
	"testing"

	"mapmaker/api"
	"mapmaker/trace"
)

func at(x, y int) api.Point { return api.Point{X: x, Y: y} }

// ring returns the points whose X and Y are given in turn.
func ring(l ...int) (out []api.Point) {
	for i := 0; i < len(l); i += 2 {
		out = append(out, at(l[i], l[i+1]))
	}
	return out
}

func reversed(r []api.Point) []api.Point {
	out := slices.Clone(r)
	slices.Reverse(out)
	return out
}

// square returns a square, counterclockwise.
func square(x, y, size int) []api.Point {
	return ring(x, y, x+size, y, x+size, y+size, x, y+size)
}

// hole returns a square, clockwise.
func hole(x, y, size int) []api.Point { return reversed(square(x, y, size)) }

func sameRings(a, b [][]api.Point) bool {
	return slices.EqualFunc(a, b, func(x, y []api.Point) bool { return slices.Equal(x, y) })
}

func samePolygons(a, b []api.Polygon) bool {
	return slices.EqualFunc(a, b, func(x, y api.Polygon) bool {
		return slices.Equal(x.Outer, y.Outer) && sameRings(x.Holes, y.Holes)
	})
}

func TestP22_1Within(t *testing.T) {
	big, last := square(0, 0, 9), api.Side-1
	for _, x := range []struct {
		name         string
		inner, outer []api.Point
		want         bool
	}{
		{"inside", square(2, 2, 3), big, true},
		{"inside a clockwise ring", square(2, 2, 3), hole(0, 0, 9), true},
		{"itself", big, big, true},
		{"on the border", ring(0, 0, 9, 4, 3, 9), big, true},
		{"around", big, square(2, 2, 3), false},
		{"beside", square(20, 20, 3), big, false},
		{"the last point outside", ring(1, 1, 2, 1, 2, 10), big, false},
		{"the first point outside", ring(10, 1, 2, 1, 2, 2), big, false},
		{"over a notch", ring(0, 0, 8, 0, 8, 4), ring(0, 0, 4, 3, 8, 0, 8, 8, 0, 8), true},
		{"no area", ring(1, 1, 2, 2, 3, 3), big, true},
		{"two points", ring(1, 1, 2, 2), big, false},
		{"no points", nil, big, false},
		{"in two points", square(2, 2, 3), ring(0, 0, 9, 9), false},
		{"in no points", square(2, 2, 3), nil, false},
		{"a point beyond the grid", ring(1, 1, 2, 1, last+1, 2), square(0, 0, last), false},
		{"the whole grid", square(0, 0, last), square(0, 0, last), true},
		{"in a ring beyond the grid", square(2, 2, 3), square(0, 0, last+1), false},
		{"far beyond", ring(math.MinInt, 0, math.MaxInt, 0, 0, math.MaxInt), ring(math.MinInt, 0, math.MaxInt, 0, 0, math.MaxInt), false},
	} {
		if got := Within(x.inner, x.outer); got != x.want {
			t.Errorf("Within %s is %v", x.name, got)
		}
	}
}

func TestP22_1Errors(t *testing.T) {
	good, short, flat := square(0, 0, 9), ring(0, 0, 5, 5), ring(0, 0, 1, 1, 2, 2)
	for _, x := range []struct {
		name  string
		rings [][]api.Point
		want  api.Errno
	}{
		{"none", nil, api.OK},
		{"one", [][]api.Point{good}, api.OK},
		{"no points", [][]api.Point{nil}, api.ErrShort},
		{"two points", [][]api.Point{good, short}, api.ErrShort},
		{"no area", [][]api.Point{good, flat}, api.ErrEmpty},
		{"an eight", [][]api.Point{ring(0, 0, 4, 4, 4, 0, 0, 4)}, api.ErrEmpty},
		{"short before empty", [][]api.Point{short, flat}, api.ErrShort},
		{"empty before short", [][]api.Point{flat, short}, api.ErrEmpty},
		{"beyond the grid", [][]api.Point{square(0, 0, api.Side)}, api.ErrEmpty},
		{"far beyond", [][]api.Point{ring(math.MinInt, 0, math.MaxInt, 0, 0, math.MaxInt)}, api.ErrEmpty},
		{"a hole", [][]api.Point{hole(0, 0, 9)}, api.ErrOpen},
		{"a hole beside", [][]api.Point{good, hole(20, 0, 9)}, api.ErrOpen},
		{"a hole that leaves", [][]api.Point{good, hole(5, 5, 9)}, api.ErrOpen},
		{"a hole around", [][]api.Point{square(2, 2, 3), hole(0, 0, 9)}, api.ErrOpen},
		{"open before short", [][]api.Point{hole(0, 0, 9), short}, api.ErrShort},
		{"open before empty", [][]api.Point{hole(0, 0, 9), flat}, api.ErrEmpty},
		{"a second hole that is open", [][]api.Point{good, hole(1, 1, 2), hole(20, 0, 9)}, api.ErrOpen},
	} {
		l, err := Polygons(x.rings)
		if err != x.want || err != api.OK && len(l) > 0 {
			t.Errorf("Polygons of %s is %v, %d, not %d", x.name, l, err, x.want)
		}
	}
}

func TestP22_1Polygons(t *testing.T) {
	outer, in, island, pond := square(0, 0, 90), hole(10, 10, 70), square(20, 20, 50), hole(30, 30, 20)
	other := ring(9, 0, 9, 9, 0, 9, 0, 0) // another beginning
	for _, x := range []struct {
		name  string
		rings [][]api.Point
		want  []api.Polygon
	}{
		{"the example", [][]api.Point{outer, in, island}, []api.Polygon{{Outer: outer, Holes: [][]api.Point{in}}, {Outer: island}}},
		{"four levels", [][]api.Point{outer, in, island, pond}, []api.Polygon{{Outer: outer, Holes: [][]api.Point{in}}, {Outer: island, Holes: [][]api.Point{pond}}}},
		{"another order", [][]api.Point{pond, island, in, outer}, []api.Polygon{{Outer: island, Holes: [][]api.Point{pond}}, {Outer: outer, Holes: [][]api.Point{in}}}},
		{"two holes", [][]api.Point{hole(40, 0, 4), outer, hole(1, 1, 3)}, []api.Polygon{{Outer: outer, Holes: [][]api.Point{hole(40, 0, 4), hole(1, 1, 3)}}}},
		{"the first of two equal ones", [][]api.Point{square(0, 0, 9), other, hole(1, 1, 3)}, []api.Polygon{{Outer: square(0, 0, 9), Holes: [][]api.Point{hole(1, 1, 3)}}, {Outer: other}}},
		{"the first of two equal ones, exchanged", [][]api.Point{hole(1, 1, 3), other, square(0, 0, 9)}, []api.Polygon{{Outer: other, Holes: [][]api.Point{hole(1, 1, 3)}}, {Outer: square(0, 0, 9)}}},
		{"equal areas at other places", [][]api.Point{square(20, 0, 9), square(0, 0, 9), hole(1, 1, 3)}, []api.Polygon{{Outer: square(20, 0, 9)}, {Outer: square(0, 0, 9), Holes: [][]api.Point{hole(1, 1, 3)}}}},
		{"the hole of its own size", [][]api.Point{outer, square(0, 0, 9), hole(0, 0, 9)}, []api.Polygon{{Outer: outer}, {Outer: square(0, 0, 9), Holes: [][]api.Point{hole(0, 0, 9)}}}},
		{"a hole with all points on a smaller ring", [][]api.Point{square(0, 0, 8), reversed(ring(0, 0, 8, 0, 8, 8)), ring(0, 0, 4, 3, 8, 0, 8, 8)}, []api.Polygon{{Outer: square(0, 0, 8)}, {Outer: ring(0, 0, 4, 3, 8, 0, 8, 8), Holes: [][]api.Point{reversed(ring(0, 0, 8, 0, 8, 8))}}}},
	} {
		if got, err := Polygons(x.rings); err != api.OK || !samePolygons(got, x.want) {
			t.Errorf("Polygons of %s is %v, %d, not %v", x.name, got, err, x.want)
		}
	}
}

// whereByRatios is the position of p relative to a ring, with the crossings computed as fractions.
func whereByRatios(r []api.Point, p api.Point) int {
	count := 0
	for i, a := range r {
		b := r[(i+1)%len(r)]
		if a == p {
			return api.On
		}
		if a.Y == b.Y {
			if p.Y == a.Y && min(a.X, b.X) <= p.X && p.X <= max(a.X, b.X) {
				return api.On
			}
			continue
		}
		if p.Y < min(a.Y, b.Y) || p.Y > max(a.Y, b.Y) {
			continue
		}
		x := big.NewRat(int64((p.Y-a.Y)*(b.X-a.X)), int64(b.Y-a.Y))
		x.Add(x, big.NewRat(int64(a.X-p.X), 1))
		if x.Sign() == 0 {
			return api.On
		}
		if x.Sign() > 0 && (a.Y > p.Y) != (b.Y > p.Y) {
			count++
		}
	}
	return []int{api.Outside, api.Inside}[count%2]
}

func area2(r []api.Point) int {
	sum := 0
	for i, a := range r {
		b := r[(i+1)%len(r)]
		sum += a.X*b.Y - b.X*a.Y
	}
	return sum
}

// polygonsBySearch is Polygons by the words of the chapter.
func polygonsBySearch(rings [][]api.Point) ([]api.Polygon, api.Errno) {
	var out []api.Polygon
	for _, r := range rings {
		if area2(r) == 0 {
			return nil, api.ErrEmpty
		}
		if area2(r) > 0 {
			out = append(out, api.Polygon{Outer: r})
		}
	}
	for _, r := range rings {
		if area2(r) > 0 {
			continue
		}
		best := -1
		for i := len(out) - 1; i >= 0; i-- {
			in := true
			for _, p := range r {
				in = in && whereByRatios(out[i].Outer, p) != api.Outside
			}
			if in && (best < 0 || area2(out[i].Outer) <= area2(out[best].Outer)) {
				best = i
			}
		}
		if best < 0 {
			return nil, api.ErrOpen
		}
		out[best].Holes = append(out[best].Holes, r)
	}
	return out, api.OK
}

// randomRings returns rings of 3 to 5 points, some of them large and counterclockwise.
func randomRings(r *rand.Rand) [][]api.Point {
	var out [][]api.Point
	for i := range 1 + r.Intn(6) {
		size := []int{16, 6}[r.Intn(2)]
		var l []api.Point
		for range 3 + r.Intn(3) {
			l = append(l, at(8-size/2+r.Intn(size+1), 8-size/2+r.Intn(size+1)))
		}
		if i == 0 && r.Intn(4) > 0 {
			l = square(0, 0, 16)
		}
		out = append(out, l)
	}
	return out
}

func TestP22_1PolygonsBySearch(t *testing.T) {
	r := rand.New(rand.NewSource(1))
	seen := map[api.Errno]int{}
	for range 20000 {
		rings := randomRings(r)
		got, err := Polygons(rings)
		want, wantErr := polygonsBySearch(rings)
		if err != wantErr || !samePolygons(got, want) {
			t.Fatalf("Polygons(%v) is %v, %d, not %v, %d", rings, got, err, want, wantErr)
		}
		seen[err]++
	}
	if seen[api.OK] < 1000 || seen[api.ErrOpen] < 1000 {
		t.Errorf("the results are %v", seen)
	}
}

func TestP22_2Rings(t *testing.T) {
	a, b, c := square(5, 0, 3), square(0, 5, 3), hole(0, 5, 1)
	long := append(slices.Clone(b), at(0, 6))
	l := []api.Polygon{{Outer: a, Holes: [][]api.Point{c, b}}, {Outer: long, Holes: [][]api.Point{nil, a}}, {}, {Outer: ring(-1, math.MaxInt)}}
	want := [][]api.Point{nil, nil, ring(-1, math.MaxInt), b, long, c, a, a}
	slices.SortFunc(want[3:6], func(x, y []api.Point) int {
		return slices.CompareFunc(x, y, func(p, q api.Point) int { return 2*compare(p.X, q.X) + compare(p.Y, q.Y) })
	})
	if got := Rings(l); !sameRings(got, want) {
		t.Errorf("Rings is %v, not %v", got, want)
	}
	if got := Rings(nil); len(got) != 0 {
		t.Errorf("Rings of no polygons is %v", got)
	}
}

func compare(a, b int) int {
	switch {
	case a < b:
		return -1
	case a > b:
		return 1
	}
	return 0
}

func TestP22_2Where(t *testing.T) {
	l := []api.Polygon{{Outer: square(0, 0, 9), Holes: [][]api.Point{hole(2, 2, 5)}}, {Outer: square(3, 3, 2)}}
	for _, x := range []struct{ x, y, want int }{
		{1, 1, api.Inside}, {6, 6, api.Outside}, {4, 4, api.Inside}, {2, 3, api.On}, {3, 3, api.On}, {9, 9, api.On}, {20, 4, api.Outside},
		{-1, 4, api.Outside}, {4, api.Side, api.Outside}, {math.MinInt, math.MaxInt, api.Outside},
	} {
		if got := Where(l, at(x.x, x.y)); got != x.want {
			t.Errorf("Where of %d %d is %d, not %d", x.x, x.y, got, x.want)
		}
	}
	// A ring on whose border the point is decides, wherever it stands in the list, and rings that are none do not count.
	for _, l := range [][]api.Polygon{
		{{Outer: square(0, 0, 9)}, {Outer: square(4, 0, 9)}},
		{{Outer: square(4, 0, 9), Holes: [][]api.Point{square(0, 0, 9), square(1, 1, 7)}}},
		{{Outer: ring(0, 0, 9, 9), Holes: [][]api.Point{nil, square(4, 4, 1), square(0, 0, api.Side)}}, {}},
	} {
		if got := Where(l, at(4, 4)); got != api.On {
			t.Errorf("Where(%v) of a point on a border is %d", l, got)
		}
	}
	none := []api.Polygon{{Outer: ring(0, 0, 9, 9), Holes: [][]api.Point{nil, square(0, 0, api.Side)}}, {}}
	if Where(none, at(4, 4)) != api.Outside || Where(nil, at(4, 4)) != api.Outside {
		t.Error("Where of no rings is not Outside")
	}
}

func TestP22_2WhereByRatios(t *testing.T) {
	r := rand.New(rand.NewSource(2))
	for range 5000 {
		var l []api.Polygon
		var rings [][]api.Point
		for range r.Intn(4) {
			x := randomRings(r)
			l = append(l, api.Polygon{Outer: x[0], Holes: x[1:]})
			rings = append(rings, x...)
		}
		p := at(r.Intn(17), r.Intn(17))
		want, sum := api.Outside, 0
		for _, x := range rings {
			sum += area2(x)
			switch w := whereByRatios(x, p); {
			case w == api.On || want == api.On:
				want = api.On
			case w == api.Inside:
				want = api.Inside - want
			}
		}
		if got := Where(l, p); got != want {
			t.Fatalf("Where(%v, %v) is %d, not %d", l, p, got, want)
		}
		if got := Area2(l); got != sum {
			t.Fatalf("Area2(%v) is %d, not %d", l, got, sum)
		}
	}
}

func TestP22_2Area2(t *testing.T) {
	l := []api.Polygon{{Outer: square(0, 0, 9), Holes: [][]api.Point{hole(2, 2, 5)}}, {Outer: square(3, 3, 2)}}
	if got := Area2(l); got != 120 {
		t.Errorf("Area2 is %d, not 120", got)
	}
	last := api.Side - 1
	wide := slices.Repeat([]api.Polygon{{Outer: square(0, 0, last)}}, 1000)
	if got := Area2(wide); got != 1000*2*last*last {
		t.Errorf("Area2 of 1000 times the grid is %d", got)
	}
	if Area2(nil) != 0 || Area2([]api.Polygon{{Outer: square(0, 0, api.Side)}, {Outer: ring(1, 1, 2, 2), Holes: [][]api.Point{nil}}}) != 0 {
		t.Error("Area2 of rings without area is not 0")
	}
}

// regionSegs returns the segments between the triangles of a net that are in a random set and those that are not.
func regionSegs(r *rand.Rand, n, density int) []api.Seg {
	count := map[api.Seg]int{}
	side := func(a, b api.Point) {
		if b.X < a.X || b.X == a.X && b.Y < a.Y {
			a, b = b, a
		}
		count[api.Seg{A: a, B: b}]++
	}
	for i := range n {
		for j := range n {
			a, b, c, d := at(2*i, 2*j), at(2*i+2, 2*j), at(2*i+2, 2*j+2), at(2*i, 2*j+2)
			if r.Intn(2) == 0 {
				a, b, c, d = b, c, d, a
			}
			for _, x := range [][3]api.Point{{a, b, c}, {a, c, d}} {
				if r.Intn(100) < density {
					side(x[0], x[1])
					side(x[1], x[2])
					side(x[2], x[0])
				}
			}
		}
	}
	var out []api.Seg
	for s, k := range count {
		if k == 1 {
			out = append(out, s)
		}
	}
	return out
}

func TestP22_3Trace(t *testing.T) {
	r := rand.New(rand.NewSource(3))
	holes := 0
	for range 2000 {
		n := 1 + r.Intn(7)
		segs := regionSegs(r, n, []int{20, 50, 80, 95}[r.Intn(4)])
		rings, err := trace.Rings(segs)
		if err != api.OK {
			continue
		}
		l, err := Polygons(rings)
		if err != api.OK {
			t.Fatalf("Polygons(%v) returns %d", rings, err)
		}
		if got := Rings(l); !sameRings(got, rings) {
			t.Fatalf("Rings of Polygons(%v) is %v", rings, got)
		}
		for i := range 4*n*n + 8*n + 4 {
			p := at(i%(2*n+2), i/(2*n+2))
			if got, want := Where(l, p), trace.Where(segs, p); got != want {
				t.Fatalf("Where(%v, %v) is %d, not %d", l, p, got, want)
			}
		}
		for _, p := range l {
			holes += len(p.Holes)
		}
	}
	if holes < 1000 {
		t.Errorf("there are only %d holes", holes)
	}
}

func TestP22_Aliasing(t *testing.T) {
	spare := at(77, 77)
	outer, inner := append(square(0, 0, 9), spare), append(hole(2, 2, 3), spare)
	full := [][]api.Point{inner[:4], outer[:4], ring(7, 7, 8, 8)}
	rings := full[:2]
	l, err := Polygons(rings)
	if err != api.OK {
		t.Fatal(err)
	}
	want := []api.Polygon{{Outer: square(0, 0, 9), Holes: [][]api.Point{hole(2, 2, 3)}}}
	holes := append(l[0].Holes, ring(1, 1))[:1]
	l[0].Holes = holes
	out := Rings(l)
	Where(l, at(4, 4))
	Area2(l)
	Within(inner[:4], outer[:4])
	for i := range out {
		_ = append(out[i], at(-7, -7))
	}
	if inner[4] != spare || outer[4] != spare || len(full[2]) != 2 || !slices.Equal(rings[0], hole(2, 2, 3)) || !slices.Equal(rings[1], square(0, 0, 9)) {
		t.Error("an argument is changed")
	}
	clear(outer)
	clear(inner)
	clear(full)
	if !samePolygons(l, want) {
		t.Errorf("the polygons share memory with the rings: %v", l)
	}
	clear(l[0].Outer)
	clear(l[0].Holes[0])
	if !sameRings(out, [][]api.Point{square(0, 0, 9), hole(2, 2, 3)}) {
		t.Errorf("the rings share memory with the polygons: %v", out)
	}
}
