package seg

import (
	"math"
	"math/big"
	"math/rand"
	"slices"
	"testing"

	"mapmaker/api"
)

func at(x, y int) api.Point { return api.Point{X: x, Y: y} }

// square returns the points with coordinates from 0 to n - 1.
func square(n int) (out []api.Point) {
	for x := range n {
		for y := range n {
			out = append(out, at(x, y))
		}
	}
	return out
}

// wrong has points that are not grid points.
var wrong = []api.Point{{X: -1}, {Y: -1}, {X: api.Side}, {Y: api.Side}, {X: math.MinInt, Y: 3}, {X: 3, Y: math.MaxInt}, {X: -5, Y: -5}, {X: api.Side, Y: api.Side}}

// random returns a grid point, often one at an edge of the grid or near the middle.
func random(r *rand.Rand) api.Point {
	one := func() int {
		switch r.Intn(4) {
		case 0:
			return r.Intn(2) * (api.Side - 1)
		case 1:
			return api.Side/2 + r.Intn(5)
		}
		return r.Intn(api.Side)
	}
	return at(one(), one())
}

func TestP9_1Of(t *testing.T) {
	for _, y := range []struct {
		a, b api.Point
		want api.Seg
	}{
		{at(1, 2), at(3, 0), api.Seg{A: at(1, 2), B: at(3, 0)}},
		{at(3, 0), at(1, 2), api.Seg{A: at(1, 2), B: at(3, 0)}},
		{at(3, 1), at(3, 0), api.Seg{A: at(3, 0), B: at(3, 1)}},
		{at(3, 0), at(3, 1), api.Seg{A: at(3, 0), B: at(3, 1)}},
		{at(2, 2), at(2, 2), api.Seg{A: at(2, 2), B: at(2, 2)}},
		{at(0, 0), at(-1, 9), api.Seg{A: at(-1, 9), B: at(0, 0)}},
		{at(math.MaxInt, 0), at(math.MinInt, 0), api.Seg{A: at(math.MinInt, 0), B: at(math.MaxInt, 0)}},
		{at(7, math.MaxInt), at(7, math.MinInt), api.Seg{A: at(7, math.MinInt), B: at(7, math.MaxInt)}},
	} {
		if s := Of(y.a, y.b); s != y.want {
			t.Errorf("Of(%v, %v) is %v, not %v", y.a, y.b, s, y.want)
		}
	}
}

func TestP9_1Less(t *testing.T) {
	numbers := []int{math.MinInt, -1, 0, 1, math.MaxInt}
	var segs []api.Seg
	for _, a := range numbers {
		for _, b := range numbers {
			for _, c := range numbers {
				for _, d := range numbers {
					segs = append(segs, api.Seg{A: at(a, b), B: at(c, d)})
				}
			}
		}
	}
	// The loops list the segments in increasing order.
	for i, a := range segs {
		for j, b := range segs {
			if Less(a, b) != (i < j) {
				t.Fatalf("Less(%v, %v) is %v", a, b, !(i < j))
			}
		}
	}
}

func TestP9_1Turn(t *testing.T) {
	if n := Turn(at(0, 0), at(4, 0), at(1, 2)); n != 8 {
		t.Errorf("Turn of the example is %d, not 8", n)
	}
	r := rand.New(rand.NewSource(1))
	for range 20000 {
		a, b, c := random(r), random(r), random(r)
		product := func(x, y int) *big.Int { return new(big.Int).Mul(big.NewInt(int64(x)), big.NewInt(int64(y))) }
		want := new(big.Int).Sub(product(b.X-a.X, c.Y-a.Y), product(b.Y-a.Y, c.X-a.X))
		if n := Turn(a, b, c); want.Cmp(big.NewInt(int64(n))) != 0 {
			t.Fatalf("Turn(%v, %v, %v) is %d, not %v", a, b, c, n, want)
		}
	}
	const last = api.Side - 1
	if n := Turn(at(0, 0), at(last, 0), at(last, last)); n != last*last {
		t.Errorf("the greatest Turn is %d", n)
	}
}

func TestP9_1Invalid(t *testing.T) {
	a, b, p := at(0, 0), at(8, 8), at(4, 4)
	for _, x := range wrong {
		for i, n := range []int{Turn(x, a, at(5, 1)), Turn(a, x, at(5, 1)), Turn(a, at(5, 1), x)} {
			if n != 0 {
				t.Errorf("Turn with %v at %d is %d", x, i, n)
			}
		}
		for i, ok := range []bool{On(x, a, b), On(p, x, b), On(p, a, x), On(x, x, x), On(x, x, b), On(x, a, x), Within(x, a, b), Within(p, x, b), Within(p, a, x)} {
			if ok {
				t.Errorf("%d: On or Within with %v", i, x)
			}
		}
	}
	// A point outside the grid that the line would reach.
	if On(at(4, 4), at(-1, -1), at(8, 8)) || On(at(4, 4), at(0, 0), at(api.Side, api.Side)) || On(at(-1, -1), at(-2, -2), at(8, 8)) {
		t.Error("On with ends outside the grid")
	}
}

// lattice returns the points with integer coordinates on the closed segment from a to b.
func lattice(a, b api.Point) []api.Point {
	dx, dy := b.X-a.X, b.Y-a.Y
	n := int(new(big.Int).GCD(nil, nil, new(big.Int).Abs(big.NewInt(int64(dx))), new(big.Int).Abs(big.NewInt(int64(dy)))).Int64())
	out := []api.Point{a}
	for i := 1; i <= n; i++ {
		out = append(out, at(a.X+i*dx/n, a.Y+i*dy/n))
	}
	return out
}

func TestP9_1OnWithin(t *testing.T) {
	points := square(6)
	for _, a := range points {
		for _, b := range points {
			on := lattice(a, b)
			for _, p := range points {
				want := slices.Contains(on, p)
				if On(p, a, b) != want {
					t.Fatalf("On(%v, %v, %v) is %v", p, a, b, !want)
				}
				want = want && p != a && p != b
				if Within(p, a, b) != want {
					t.Fatalf("Within(%v, %v, %v) is %v", p, a, b, !want)
				}
			}
		}
	}
	const last = api.Side - 1
	if !On(at(last, last), at(0, 0), at(last, last)) || !Within(at(last-1, last-1), at(last, last), at(0, 0)) || Within(at(last-1, last-2), at(0, 0), at(last, last)) {
		t.Error("points on the diagonal of the grid")
	}
}

// relate classifies segments with different ends by the fractions of both at which their lines meet.
func relate(s, t api.Seg) int {
	d, e, f := at(s.B.X-s.A.X, s.B.Y-s.A.Y), at(t.B.X-t.A.X, t.B.Y-t.A.Y), at(t.A.X-s.A.X, t.A.Y-s.A.Y)
	cross := func(a, b api.Point) int { return a.X*b.Y - a.Y*b.X }
	dot := func(a, b api.Point) int { return a.X*b.X + a.Y*b.Y }
	n := cross(d, e)
	if n == 0 {
		if cross(f, d) != 0 {
			return Apart
		}
		lo, hi := dot(f, d), dot(f, d)+dot(e, d)
		lo, hi = max(0, min(lo, hi)), min(dot(d, d), max(lo, hi))
		switch {
		case lo < hi:
			return Overlap
		case lo == hi:
			return Touch
		}
		return Apart
	}
	u, v := cross(f, e), cross(f, d)
	if n < 0 {
		n, u, v = -n, -u, -v
	}
	switch {
	case u < 0 || u > n || v < 0 || v > n:
		return Apart
	case u > 0 && u < n && v > 0 && v < n:
		return Cross
	}
	return Touch
}

func TestP9_2Examples(t *testing.T) {
	if Apart != 0 || Touch != 1 || Cross != 2 || Overlap != 3 {
		t.Error("the classes have other numbers")
	}
	for _, y := range []struct {
		a, b, c, d api.Point
		want       int
	}{
		{at(0, 0), at(4, 4), at(0, 4), at(4, 0), Cross},
		{at(0, 0), at(1, 1), at(0, 1), at(1, 0), Cross},
		{at(0, 0), at(4, 0), at(2, 0), at(2, 3), Touch},
		{at(0, 0), at(4, 0), at(2, 0), at(6, 0), Overlap},
		{at(0, 0), at(4, 0), at(0, 0), at(4, 0), Overlap},
		{at(0, 0), at(4, 0), at(4, 0), at(0, 0), Overlap},
		{at(0, 0), at(0, 4), at(0, 1), at(0, 2), Overlap},
		{at(0, 0), at(0, 4), at(0, 4), at(0, 9), Touch},
		{at(0, 0), at(0, 4), at(0, 5), at(0, 9), Apart},
		{at(0, 0), at(4, 0), at(0, 0), at(0, 4), Touch},
		{at(0, 0), at(4, 0), at(2, 1), at(2, 5), Apart},
		{at(0, 0), at(4, 4), at(1, 0), at(5, 4), Apart},
	} {
		if n := Relate(api.Seg{A: y.a, B: y.b}, api.Seg{A: y.c, B: y.d}); n != y.want {
			t.Errorf("Relate of %v-%v and %v-%v is %d, not %d", y.a, y.b, y.c, y.d, n, y.want)
		}
	}
}

func TestP9_2All(t *testing.T) {
	points := square(5)
	counts := map[int]int{}
	for _, a := range points {
		for _, b := range points {
			for _, c := range points {
				for _, d := range points {
					s, u := api.Seg{A: a, B: b}, api.Seg{A: c, B: d}
					want := Apart
					if a != b && c != d {
						want = relate(s, u)
					}
					if n := Relate(s, u); n != want {
						t.Fatalf("Relate(%v, %v) is %d, not %d", s, u, n, want)
					}
					counts[want]++
				}
			}
		}
	}
	if len(counts) != 4 {
		t.Errorf("not all classes: %v", counts)
	}
}

func TestP9_2Large(t *testing.T) {
	r := rand.New(rand.NewSource(2))
	for range 50000 {
		s, u := api.Seg{A: random(r), B: random(r)}, api.Seg{A: random(r), B: random(r)}
		if s.A == s.B || u.A == u.B {
			continue
		}
		if n, want := Relate(s, u), relate(s, u); n != want {
			t.Fatalf("Relate(%v, %v) is %d, not %d", s, u, n, want)
		}
	}
	const last = api.Side - 1
	// The ends of a segment are one grid unit off the other one's line.
	if n := Relate(api.Seg{A: at(0, 0), B: at(last, last)}, api.Seg{A: at(1, 0), B: at(last, last-1)}); n != Apart {
		t.Errorf("parallel segments are %d", n)
	}
	if n := Relate(api.Seg{A: at(0, 0), B: at(last, last)}, api.Seg{A: at(1, 0), B: at(last-1, last)}); n != Cross {
		t.Errorf("nearly parallel segments are %d", n)
	}
}

func TestP9_2Invalid(t *testing.T) {
	s := api.Seg{A: at(0, 0), B: at(8, 0)}
	for _, x := range wrong {
		for i, u := range []api.Seg{{A: x, B: at(4, 0)}, {A: at(4, 0), B: x}, {A: x, B: at(0, 0)}, {A: x, B: x}} {
			if Relate(s, u) != Apart || Relate(u, s) != Apart {
				t.Errorf("%d: Relate with %v is not Apart", i, x)
			}
		}
	}
	for _, p := range []api.Point{at(0, 0), at(4, 0), at(8, 0), at(1, 1)} {
		point := api.Seg{A: p, B: p}
		if Relate(s, point) != Apart || Relate(point, s) != Apart || Relate(point, point) != Apart {
			t.Errorf("Relate with the point %v is not Apart", p)
		}
	}
}

func TestP9_3Far(t *testing.T) {
	for _, y := range []struct {
		p, a, b  api.Point
		num, den int
	}{
		{at(1, 1), at(0, 0), at(2, 0), 4, 4},
		{at(1, 1), at(2, 0), at(0, 0), 4, 4},
		{at(5, 4), at(0, 0), at(2, 0), 25, 1},
		{at(0, 3), at(0, 0), at(2, 0), 9, 1},
		{at(2, 3), at(0, 0), at(2, 0), 9, 1},
		{at(1, 0), at(0, 0), at(2, 0), 0, 4},
		{at(0, 0), at(0, 0), at(2, 0), 0, 1},
		{at(2, 0), at(0, 0), at(2, 0), 0, 1},
		{at(3, 4), at(0, 0), at(0, 0), 25, 1},
		{at(7, 7), at(7, 7), at(7, 7), 0, 1},
		{at(0, 2), at(0, 0), at(2, 2), 16, 8},
	} {
		if n, d := Far(y.p, y.a, y.b); n != y.num || d != y.den {
			t.Errorf("Far(%v, %v, %v) is %d/%d, not %d/%d", y.p, y.a, y.b, n, d, y.num, y.den)
		}
	}
	for _, x := range wrong {
		for i, y := range [][3]api.Point{{x, at(0, 0), at(4, 0)}, {at(0, 3), x, at(4, 0)}, {at(0, 3), at(4, 0), x}, {x, x, x}} {
			if n, d := Far(y[0], y[1], y[2]); n != 0 || d != 0 {
				t.Errorf("%d: Far with %v is %d/%d, not 0/0", i, x, n, d)
			}
		}
	}
}

// far returns the squared distance of p from the segment, and whether the nearest point is an end.
func far(p, a, b api.Point) (*big.Rat, bool) {
	whole := func(n int) *big.Rat { return big.NewRat(int64(n), 1) }
	dx, dy := b.X-a.X, b.Y-a.Y
	along := new(big.Rat)
	if length := dx*dx + dy*dy; length > 0 {
		along.SetFrac64(int64(dx*(p.X-a.X)+dy*(p.Y-a.Y)), int64(length))
	}
	end := along.Sign() <= 0 || along.Cmp(whole(1)) >= 0
	if along.Sign() < 0 {
		along.SetInt64(0)
	}
	if along.Cmp(whole(1)) > 0 {
		along.SetInt64(1)
	}
	gap := func(p, a, d int) *big.Rat {
		foot := new(big.Rat).Mul(along, whole(d))
		foot.Add(foot, whole(a))
		foot.Sub(foot, whole(p))
		return foot.Mul(foot, foot)
	}
	return new(big.Rat).Add(gap(p.X, a.X, dx), gap(p.Y, a.Y, dy)), end
}

func checkFar(t *testing.T, p, a, b api.Point) {
	t.Helper()
	want, end := far(p, a, b)
	n, d := Far(p, a, b)
	den := 1
	if !end {
		den = (b.X-a.X)*(b.X-a.X) + (b.Y-a.Y)*(b.Y-a.Y)
	}
	if d != den || big.NewRat(int64(n), int64(d)).Cmp(want) != 0 {
		t.Fatalf("Far(%v, %v, %v) is %d/%d, not %v", p, a, b, n, d, want)
	}
}

func TestP9_3FarAll(t *testing.T) {
	points := square(5)
	for _, p := range points {
		for _, a := range points {
			for _, b := range points {
				checkFar(t, p, a, b)
			}
		}
	}
	r := rand.New(rand.NewSource(3))
	for range 20000 {
		checkFar(t, random(r), random(r), random(r))
	}
}

func TestP9_3Nearer(t *testing.T) {
	numbers := []int{0, 1, 2, 3, 5, 7, 1 << 31, 1 << 60, math.MaxInt - 1, math.MaxInt}
	for _, a := range numbers {
		for _, b := range numbers[1:] {
			for _, c := range numbers {
				for _, d := range numbers[1:] {
					want := big.NewRat(int64(a), int64(b)).Cmp(big.NewRat(int64(c), int64(d)))
					if n := Nearer(a, b, c, d); n != want {
						t.Fatalf("Nearer(%d, %d, %d, %d) is %d, not %d", a, b, c, d, n, want)
					}
				}
			}
		}
	}
	for _, x := range [][4]int{{1, 0, 2, 5}, {2, 5, 1, 0}, {1, -1, 2, 5}, {2, 5, 1, -1}, {-1, 1, 2, 5}, {2, 5, -1, 1}, {1, math.MinInt, 2, 1}, {math.MinInt, 1, 1, 1}, {0, 0, 1, 1}, {1, 1, 0, 0}} {
		if n := Nearer(x[0], x[1], x[2], x[3]); n != 0 {
			t.Errorf("Nearer%v is %d, not 0", x, n)
		}
	}
}

func TestP9_4Symmetry(t *testing.T) {
	r := rand.New(rand.NewSource(4))
	one := func() api.Point {
		if r.Intn(20) == 0 {
			return wrong[r.Intn(len(wrong))]
		}
		return at(r.Intn(7), r.Intn(7))
	}
	for range 50000 {
		a, b, c, d := one(), one(), one(), one()
		s, u := api.Seg{A: a, B: b}, api.Seg{A: c, B: d}
		n := Relate(s, u)
		if Relate(u, s) != n || Relate(api.Seg{A: b, B: a}, u) != n || Relate(s, api.Seg{A: d, B: c}) != n {
			t.Fatalf("Relate(%v, %v) depends on the order", s, u)
		}
		if m := Turn(a, b, c); Turn(b, c, a) != m || Turn(c, a, b) != m || Turn(b, a, c) != -m {
			t.Fatalf("Turn(%v, %v, %v) depends on the beginning", a, b, c)
		}
		num, den := Far(c, a, b)
		if den > 0 && (num == 0) != On(c, a, b) {
			t.Fatalf("Far(%v, %v, %v) is %d, and On is %v", c, a, b, num, On(c, a, b))
		}
	}
}
