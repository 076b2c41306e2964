package clip

import (
	"mapmaker/api"
	"mapmaker/grid"
	"mapmaker/num"
)

// half is a half plane.
type half struct {
	holds func(p api.Point) bool
	cut   func(a, c api.Point) api.Point // the point on the border of the segment from a to c, of which a is the smaller end
}

// halvesOf returns the half planes whose intersection is the box.
func halvesOf(b api.Box) [4]half {
	atX := func(x int) func(a, c api.Point) api.Point {
		return func(a, c api.Point) api.Point {
			return api.Point{X: x, Y: a.Y + share(x-a.X, c.X-a.X, c.Y-a.Y)}
		}
	}
	atY := func(y int) func(a, c api.Point) api.Point {
		return func(a, c api.Point) api.Point {
			return api.Point{X: a.X + share(y-a.Y, c.Y-a.Y, c.X-a.X), Y: y}
		}
	}
	return [4]half{
		{func(p api.Point) bool { return p.X >= b.X0 }, atX(b.X0)},
		{func(p api.Point) bool { return p.X <= b.X1 }, atX(b.X1)},
		{func(p api.Point) bool { return p.Y >= b.Y0 }, atY(b.Y0)},
		{func(p api.Point) bool { return p.Y <= b.Y1 }, atY(b.Y1)},
	}
}

// border returns the point of the segment from p to q on the border. It is computed from the smaller end, so that it does not depend on the direction.
func (h half) border(p, q api.Point) api.Point {
	if grid.Less(q, p) {
		p, q = q, p
	}
	return h.cut(p, q)
}

// clip returns the points of the ring in the half plane, with those where it crosses the border.
func (h half) clip(r []api.Point) []api.Point {
	var out []api.Point
	for i, p := range r {
		q := r[(i+1)%len(r)]
		if h.holds(p) {
			out = append(out, p)
		}
		if h.holds(p) != h.holds(q) {
			out = append(out, h.border(p, q))
		}
	}
	return out
}

// share returns part/whole of n, rounded.
func share(part, whole, n int) int {
	if whole < 0 {
		part, whole = -part, -whole
	}
	return num.RoundDiv(part*n, whole)
}
