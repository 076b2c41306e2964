package hilbert

import (
	"math"
	"math/rand"
	"testing"

	"mapmaker/api"
)

const count = api.Side * api.Side

// curve returns the points of the curve of order k by its definition.
func curve(k int) []api.Point {
	if k == 0 {
		return []api.Point{{}}
	}
	h := 1 << (k - 1)
	lower := curve(k - 1)
	var out []api.Point
	for _, q := range lower {
		out = append(out, api.Point{X: q.Y, Y: q.X})
	}
	for _, q := range lower {
		out = append(out, api.Point{X: q.X, Y: q.Y + h})
	}
	for _, q := range lower {
		out = append(out, api.Point{X: q.X + h, Y: q.Y + h})
	}
	for _, q := range lower {
		out = append(out, api.Point{X: 2*h - 1 - q.Y, Y: h - 1 - q.X})
	}
	return out
}

// pointAt returns the point at position i of the curve of order k.
func pointAt(k, i int) api.Point {
	if k == 0 {
		return api.Point{}
	}
	h, part := 1<<(k-1), 1<<(2*(k-1))
	q := pointAt(k-1, i%part)
	switch i / part {
	case 0:
		return api.Point{X: q.Y, Y: q.X}
	case 1:
		return api.Point{X: q.X, Y: q.Y + h}
	case 2:
		return api.Point{X: q.X + h, Y: q.Y + h}
	}
	return api.Point{X: 2*h - 1 - q.Y, Y: h - 1 - q.X}
}

func TestP10_1Examples(t *testing.T) {
	for _, y := range []struct{ x, y, i int }{
		{0, 0, 0}, {0, 1, 1}, {1, 1, 2}, {1, 0, 3}, {2, 0, 4}, {32767, 0, 1073741823}, {32767, 32767, 715827882}, {0, 32767, 357913941},
	} {
		p := api.Point{X: y.x, Y: y.y}
		if i := Index(p); i != y.i {
			t.Errorf("Index(%v) is %d, not %d", p, i, y.i)
		}
		if q := Point(y.i); q != p {
			t.Errorf("Point(%d) is %v, not %v", y.i, q, p)
		}
	}
}

func TestP10_1Definition(t *testing.T) {
	// The curve of an odd order is the beginning of the one of order 15.
	for i, p := range curve(9) {
		if q := Point(i); q != p {
			t.Fatalf("Point(%d) is %v, not %v", i, q, p)
		}
		if n := Index(p); n != i {
			t.Fatalf("Index(%v) is %d, not %d", p, n, i)
		}
	}
	r := rand.New(rand.NewSource(1))
	for range 100000 {
		i := r.Intn(count)
		p := pointAt(15, i)
		if q := Point(i); q != p {
			t.Fatalf("Point(%d) is %v, not %v", i, q, p)
		}
		if n := Index(p); n != i {
			t.Fatalf("Index(%v) is %d, not %d", p, n, i)
		}
	}
}

func TestP10_1Invalid(t *testing.T) {
	for _, p := range []api.Point{{X: -1}, {Y: -1}, {X: api.Side}, {Y: api.Side}, {X: math.MinInt}, {Y: math.MaxInt}, {X: -1, Y: -1}, {X: math.MaxInt, Y: math.MinInt}} {
		if i := Index(p); i != -1 {
			t.Errorf("Index(%v) is %d, not -1", p, i)
		}
	}
	for _, i := range []int{-1, math.MinInt, count, count + 1, math.MaxInt} {
		if p := Point(i); p != (api.Point{X: -1, Y: -1}) {
			t.Errorf("Point(%d) is %v, not {-1 -1}", i, p)
		}
	}
}

func TestP10_2Inverse(t *testing.T) {
	r := rand.New(rand.NewSource(2))
	for range 100000 {
		p := api.Point{X: r.Intn(api.Side), Y: r.Intn(api.Side)}
		i := Index(p)
		if i < 0 || i >= count || Point(i) != p {
			t.Fatalf("Index(%v) is %d, and its point is %v", p, i, Point(i))
		}
	}
}

func TestP10_2Neighbours(t *testing.T) {
	step := func(i int) {
		t.Helper()
		p, q := Point(i), Point(i+1)
		if d := (p.X-q.X)*(p.X-q.X) + (p.Y-q.Y)*(p.Y-q.Y); d != 1 {
			t.Fatalf("the points at %d and %d are %v and %v", i, i+1, p, q)
		}
	}
	for i := range 1 << 18 {
		step(i)
		step(count - 2 - i)
	}
	// Where parts of the curve of every order meet.
	for size := 1; size < count; size *= 4 {
		for i := range min(1000, count/size-1) {
			step((i+1)*size - 1)
			step(count - (i+1)*size - 1)
		}
	}
}
