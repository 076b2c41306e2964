package hull

import (
	"math"
	"math/rand"
	"slices"
	"testing"

	"mapmaker/api"
	"mapmaker/grid"
	"mapmaker/seg"
)

// pts returns the points with these coordinates in turn.
func pts(numbers ...int) (out []api.Point) {
	for i := 0; i < len(numbers); i += 2 {
		out = append(out, api.Point{X: numbers[i], Y: numbers[i+1]})
	}
	return out
}

// wrong has points that are not grid points.
var wrong = []api.Point{{X: -1}, {Y: -1}, {X: api.Side}, {Y: api.Side}, {X: math.MinInt, Y: 3}, {X: 3, Y: math.MaxInt}}

func random(r *rand.Rand, n, size int) (out []api.Point) {
	for range n {
		out = append(out, api.Point{X: r.Intn(size), Y: r.Intn(size)})
	}
	return out
}

// inTriangle reports whether p is in the closed triangle of three points, which may be on one line or equal.
func inTriangle(p, a, b, c api.Point) bool {
	if seg.Turn(a, b, c) < 0 {
		b, c = c, b
	}
	if seg.Turn(a, b, c) == 0 {
		return seg.On(p, a, b) || seg.On(p, b, c) || seg.On(p, a, c)
	}
	return seg.Turn(a, b, p) >= 0 && seg.Turn(b, c, p) >= 0 && seg.Turn(c, a, p) >= 0
}

// contains reports whether p is in the hull of l: in a triangle of three of its points.
func contains(l []api.Point, p api.Point) bool {
	for _, a := range l {
		for _, b := range l {
			for _, c := range l {
				if inTriangle(p, a, b, c) {
					return true
				}
			}
		}
	}
	return false
}

// corners returns the points that are not in the hull of the others, in increasing order.
func corners(l []api.Point) (out []api.Point) {
	for _, p := range l {
		others := slices.DeleteFunc(slices.Clone(l), func(q api.Point) bool { return q == p })
		if !slices.Contains(out, p) && !contains(others, p) {
			out = append(out, p)
		}
	}
	return inOrder(out)
}

func TestP13_1Examples(t *testing.T) {
	const last = api.Side - 1
	for _, y := range []struct{ l, want []api.Point }{
		{pts(0, 0, 4, 0, 2, 1, 4, 4, 2, 0), pts(0, 0, 4, 0, 4, 4)},
		{nil, nil}, {pts(3, 4), pts(3, 4)}, {pts(3, 4, 3, 4, 3, 4), pts(3, 4)}, {pts(3, 4, 1, 9), pts(1, 9, 3, 4)},
		{pts(3, 3, 1, 1, 2, 2), pts(1, 1, 3, 3)}, {pts(5, 9, 5, 1, 5, 4, 5, 1), pts(5, 1, 5, 9)}, {pts(2, 7, 9, 7, 3, 7), pts(2, 7, 9, 7)}, {pts(0, 9, 9, 0, 3, 6), pts(0, 9, 9, 0)},
		{pts(0, 0, 0, 4, 4, 4, 4, 0, 2, 2), pts(0, 0, 4, 0, 4, 4, 0, 4)},
		{pts(last, last, 0, 0, last, 0, 0, last, 0, 5, last, 9, 7, 0, 8, last), pts(0, 0, last, 0, last, last, 0, last)},
		{pts(1, 1, 2, 0, 2, 2, 3, 1), pts(1, 1, 2, 0, 3, 1, 2, 2)},
	} {
		if h := Of(y.l); !slices.Equal(h, y.want) {
			t.Errorf("Of(%v) is %v, not %v", y.l, h, y.want)
		}
	}
}

func TestP13_1Corners(t *testing.T) {
	r := rand.New(rand.NewSource(1))
	for range 3000 {
		size := 2 + r.Intn(8)
		if r.Intn(4) == 0 {
			size = api.Side
		}
		l := random(r, 1+r.Intn(9), size)
		h := Of(l)
		if want := corners(l); !slices.Equal(inOrder(h), want) || h[0] != want[0] {
			t.Fatalf("Of(%v) is %v; the corners are %v", l, h, want)
		}
		for i := range h {
			if n := len(h); n > 2 && seg.Turn(h[i], h[(i+1)%n], h[(i+2)%n]) <= 0 {
				t.Fatalf("Of(%v) is %v, which does not turn left at its corners", l, h)
			}
		}
	}
}

func TestP13_1Invalid(t *testing.T) {
	l := pts(0, 0, 4, 0, 4, 4)
	for _, p := range wrong {
		for i := range 4 {
			if h := Of(slices.Insert(slices.Clone(l), i, p)); len(h) != 0 {
				t.Errorf("Of with %v is %v", p, h)
			}
		}
		if len(Of([]api.Point{p})) != 0 {
			t.Errorf("Of(%v) is not empty", p)
		}
	}
}

func TestP13_2Holds(t *testing.T) {
	r := rand.New(rand.NewSource(2))
	for range 400 {
		l := random(r, r.Intn(7), 6)
		h := Of(l)
		for x := range 7 {
			for y := range 7 {
				p := api.Point{X: x, Y: y}
				if Holds(h, p) != contains(l, p) {
					t.Fatalf("Holds(%v, %v) is %v", h, p, Holds(h, p))
				}
			}
		}
	}
	line := pts(1, 1, 5, 3)
	if !Holds(line, api.Point{X: 3, Y: 2}) || !Holds(line, line[0]) || !Holds(line, line[1]) || Holds(line, api.Point{X: 7, Y: 4}) || Holds(line, api.Point{X: 3, Y: 3}) {
		t.Error("Holds is wrong for a line")
	}
	if !Holds(pts(2, 2), api.Point{X: 2, Y: 2}) || Holds(pts(2, 2), api.Point{X: 2, Y: 3}) || Holds(nil, api.Point{}) {
		t.Error("Holds is wrong for a point or for none")
	}
}

func TestP13_2Others(t *testing.T) {
	inner := api.Point{X: 2, Y: 1}
	for _, h := range [][]api.Point{
		pts(0, 0, 4, 4, 4, 0),             // clockwise
		pts(4, 0, 4, 4, 0, 0),             // not from the smallest corner
		pts(0, 0, 2, 0, 4, 0, 4, 4),       // with a point on a side
		pts(0, 0, 4, 0, 4, 4, 0, 0),       // with a corner twice
		pts(0, 0, 4, 0, 2, 1, 4, 4),       // with a point inside
		pts(4, 2, 0, 0),                   // the greater end first
		pts(0, 0, 2, 1, 4, 2),             // three points on one line
		pts(2, 1, 2, 1),                   // a point twice
		pts(0, 0, api.Side, 0, 4, 4),      // not a grid point
		pts(-1, 0, 4, 0, 4, 4),            // not a grid point
		pts(0, 0, 4, 4, 4, 0, 0, 4),       // crossed
		pts(0, 0, 9, 0, 9, 9, 0, 9, 5, 5), // dented
	} {
		if Holds(h, inner) || Holds(h, h[0]) {
			t.Errorf("Holds with %v, which is not a hull", h)
		}
	}
	for _, p := range wrong {
		if Holds(pts(0, 0, 4, 0, 4, 4), p) || Holds([]api.Point{p}, p) || Holds(nil, p) {
			t.Errorf("Holds with %v", p)
		}
	}
}

func TestP13_3Properties(t *testing.T) {
	r := rand.New(rand.NewSource(3))
	for range 2000 {
		l := random(r, 1+r.Intn(30), 3+r.Intn(40))
		h := Of(l)
		for _, p := range l {
			if !Holds(h, p) {
				t.Fatalf("the hull %v does not contain %v", h, p)
			}
		}
		for _, p := range h {
			if !slices.Contains(l, p) {
				t.Fatalf("the corner %v is not in %v", p, l)
			}
		}
		if !slices.Equal(Of(h), h) || !grid.Valid(h[0]) {
			t.Fatalf("Of(%v) is %v", h, Of(h))
		}
	}
}

// TestP13_Aliasing checks that Of neither changes its argument nor returns its memory.
func TestP13_Aliasing(t *testing.T) {
	for _, full := range [][]api.Point{pts(4, 4, 0, 0, 4, 0, 9, 9), pts(1, 1, 9, 9), pts(1, 1, 1, 1, 9, 9)} {
		l := full[:len(full)-1]
		before := slices.Clone(full)
		h := Of(l)
		for i := range h {
			h[i] = api.Point{X: 7, Y: 7}
		}
		if !slices.Equal(full, before) {
			t.Errorf("the points became %v", full)
		}
	}
}
