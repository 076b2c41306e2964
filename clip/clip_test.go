package clip

import (
	"math"
	"math/big"
	"math/rand"
	"slices"
	"testing"

	"mapmaker/api"
)

// pts returns the points whose X and Y are given in turn.
func pts(l ...int) (out []api.Point) {
	for i := 0; i < len(l); i += 2 {
		out = append(out, api.Point{X: l[i], Y: l[i+1]})
	}
	return out
}

func box(x0, y0, x1, y1 int) api.Box { return api.Box{X0: x0, Y0: y0, X1: x1, Y1: y1} }

// whole is the box of the whole grid.
var whole = box(0, 0, api.Side, api.Side)

// wrong has boxes that are not valid.
var wrong = []api.Box{box(-1, 0, 5, 5), box(0, -1, 5, 5), box(6, 0, 5, 5), box(0, 6, 5, 5), box(0, 0, api.Side+1, 5), box(0, 0, 5, api.Side+1), box(math.MinInt, 0, math.MaxInt, 5)}

// off has points that are not grid points.
var off = pts(-1, 0, 0, -1, api.Side, 0, 0, api.Side, math.MinInt, 3, 3, math.MaxInt)

func equal(a, b [][]api.Point) bool {
	return slices.EqualFunc(a, b, func(x, y []api.Point) bool { return slices.Equal(x, y) })
}

func TestP12_1Tidy(t *testing.T) {
	for _, x := range []struct{ l, want []api.Point }{
		{nil, nil},
		{pts(3, 3), pts(3, 3)},
		{pts(3, 3, 3, 3), pts(3, 3)},
		{pts(1, 1, 1, 1, 2, 1, 2, 1, 2, 1, 1, 1, 1, 1), pts(1, 1, 2, 1, 1, 1)},
		{pts(1, 1, 1, 2, 2, 2, 2, 1), pts(1, 1, 1, 2, 2, 2, 2, 1)},
		{pts(math.MinInt, math.MaxInt, math.MinInt, math.MaxInt, -1, 0), pts(math.MinInt, math.MaxInt, -1, 0)},
	} {
		if got := Tidy(x.l); !slices.Equal(got, x.want) {
			t.Errorf("Tidy(%v) is %v, not %v", x.l, got, x.want)
		}
	}
}

func TestP12_1TidyRing(t *testing.T) {
	for _, x := range []struct{ r, want []api.Point }{
		{nil, nil},
		{pts(3, 3), nil},
		{pts(3, 3, 3, 3, 3, 3), nil},
		{pts(3, 3, 4, 4), nil},
		{pts(3, 3, 4, 4, 3, 3), nil},
		{pts(3, 3, 4, 4, 4, 4, 3, 3, 3, 3), nil},
		{pts(0, 0, 4, 4, 8, 0), pts(0, 0, 4, 4, 8, 0)},
		{pts(0, 0, 4, 4, 0, 0, 5, 5), pts(0, 0, 4, 4, 0, 0, 5, 5)},
		{pts(0, 0, 0, 0, 4, 4, 8, 0, 8, 0, 0, 0, 0, 0), pts(0, 0, 4, 4, 8, 0)},
		{pts(-5, 0, math.MaxInt, 4, 8, math.MinInt, -5, 0), pts(-5, 0, math.MaxInt, 4, 8, math.MinInt)},
	} {
		if got := TidyRing(x.r); !slices.Equal(got, x.want) {
			t.Errorf("TidyRing(%v) is %v, not %v", x.r, got, x.want)
		}
	}
}

func TestP12_2Examples(t *testing.T) {
	for _, x := range []struct {
		r    []api.Point
		b    api.Box
		want []api.Point
	}{
		{pts(0, 0, 8, 0, 8, 8, 0, 8), box(4, 4, 20, 20), pts(8, 4, 8, 8, 4, 8, 4, 4)},
		{pts(0, 0, 8, 0, 8, 8, 0, 8), box(0, 0, 8, 8), pts(0, 0, 8, 0, 8, 8, 0, 8)},
		{pts(0, 0, 8, 0, 8, 8, 0, 8), whole, pts(0, 0, 8, 0, 8, 8, 0, 8)},
		{pts(0, 0, 8, 0, 8, 8, 0, 8), box(2, 3, 5, 6), pts(5, 3, 5, 6, 2, 6, 2, 3)},
		{pts(0, 0, 8, 0, 8, 8, 0, 8), box(8, 0, 20, 20), nil},
		{pts(0, 0, 8, 0, 8, 8, 0, 8), box(9, 0, 20, 20), nil},
		{pts(0, 0, 8, 0, 8, 8, 0, 8), box(3, 3, 3, 3), nil},
		{pts(0, 0, 8, 0, 8, 8, 0, 8), box(api.Side, 0, api.Side, api.Side), nil},
		{pts(0, 0, 8, 0, 4, 0), whole, nil},
		{pts(0, 0, 4, 4, 0, 4, 4, 0), whole, nil},
		{nil, whole, nil},
		{pts(5, 5), whole, nil},
		{pts(5, 5, 6, 6), whole, nil},
		// Halves are rounded up: the sides leave the box at 1 and at 2.
		{pts(0, 0, 2, 1, 2, 3, 0, 4), box(0, 0, 1, 9), pts(0, 0, 1, 1, 1, 4, 0, 4)},
		// Y of the left side's point on the border is 3 - 1/2 rounded up.
		{pts(0, 3, 2, 2, 2, 9, 0, 9), box(1, 0, 9, 9), pts(1, 3, 2, 2, 2, 9, 1, 9)},
		// A point that occurs twice in a row.
		{pts(0, 0, 0, 0, 8, 0, 8, 8), box(0, 0, 4, 4), pts(0, 0, 4, 0, 4, 4)},
	} {
		if got := Ring(x.r, x.b); !slices.Equal(got, x.want) {
			t.Errorf("Ring(%v, %v) is %v, not %v", x.r, x.b, got, x.want)
		}
	}
}

func TestP12_3Examples(t *testing.T) {
	for _, x := range []struct {
		l    []api.Point
		b    api.Box
		want [][]api.Point
	}{
		{pts(0, 0, 10, 0), box(2, 0, 5, 5), [][]api.Point{pts(2, 0, 5, 0)}},
		{pts(10, 0, 0, 0), box(2, 0, 5, 5), [][]api.Point{pts(5, 0, 2, 0)}},
		{nil, whole, nil},
		{pts(3, 3), whole, nil},
		{pts(3, 3, 3, 3), whole, nil},
		{pts(0, 0, 0, 0, 3, 3, 3, 3, 4, 0), whole, [][]api.Point{pts(0, 0, 3, 3, 4, 0)}},
		// Out and back over the same point of the border: two parts.
		{pts(2, 3, 8, 3, 2, 3), box(0, 0, 5, 5), [][]api.Point{pts(2, 3, 5, 3), pts(5, 3, 2, 3)}},
		// Back at the same point, which is a point of the line: one part.
		{pts(2, 3, 5, 3, 2, 3), box(0, 0, 5, 5), [][]api.Point{pts(2, 3, 5, 3, 2, 3)}},
		// The pair between the two pieces is beyond the border: the piece is dropped, although the ends are equal.
		{pts(2, 3, 5, 3, 9, 3, 5, 3, 2, 2), box(0, 0, 5, 5), [][]api.Point{pts(2, 3, 5, 3), pts(5, 3, 2, 2)}},
		// Along the border and over a corner.
		{pts(0, 5, 5, 5, 9, 5), box(0, 0, 5, 5), [][]api.Point{pts(0, 5, 5, 5)}},
		{pts(4, 6, 6, 4), box(0, 0, 5, 5), nil},
		{pts(4, 7, 7, 4), box(0, 0, 5, 5), nil},
		// A box without an inside.
		{pts(0, 3, 9, 3), box(4, 0, 4, 9), nil},
		{pts(4, 1, 4, 12), box(4, 0, 4, 9), [][]api.Point{pts(4, 1, 4, 9)}},
		{pts(0, 0, 9, 9), box(4, 4, 4, 4), nil},
		// Through the whole box, with a Y that is rounded up in both directions.
		{pts(0, 0, 8, 4), box(1, 0, 7, 9), [][]api.Point{pts(1, 1, 7, 4)}},
		{pts(8, 4, 0, 0), box(1, 0, 7, 9), [][]api.Point{pts(7, 4, 1, 1)}},
		{pts(0, 4, 8, 0), box(1, 0, 7, 9), [][]api.Point{pts(1, 4, 7, 1)}},
		// A falling line at a border of Y: the denominator is negative.
		{pts(0, 8, 4, 0), box(0, 1, 9, 7), [][]api.Point{pts(1, 7, 4, 1)}},
		{pts(0, 0, 9, 0), box(api.Side, 0, api.Side, api.Side), nil},
	} {
		if got := Line(x.l, x.b); !equal(got, x.want) {
			t.Errorf("Line(%v, %v) is %v, not %v", x.l, x.b, got, x.want)
		}
	}
}

func TestP12_Invalid(t *testing.T) {
	square := pts(0, 0, 8, 0, 8, 8, 0, 8)
	for _, b := range wrong {
		if r, l := Ring(square, b), Line(square, b); len(r) != 0 || len(l) != 0 {
			t.Errorf("with the box %v Ring is %v and Line %v", b, r, l)
		}
	}
	for _, p := range off {
		for i := range len(square) + 1 {
			bad := slices.Insert(slices.Clone(square), i, p)
			if r, l := Ring(bad, whole), Line(bad, whole); len(r) != 0 || len(l) != 0 {
				t.Errorf("with the points %v Ring is %v and Line %v", bad, r, l)
			}
		}
	}
}

// rounded returns the greatest integer that is at most n/d + 1/2.
func rounded(n, d int) int {
	num := big.NewInt(int64(2*n + d))
	den := big.NewInt(int64(2 * d))
	if d < 0 {
		num, den = num.Neg(num), den.Neg(den)
	}
	q := new(big.Int)
	q.Div(num, den) // Euclidean: rounded down, since den is above 0
	return int(q.Int64())
}

// cutAt returns the point of the segment with the coordinate v on the axis (0 for X).
func cutAt(axis, v int, p, q api.Point) api.Point {
	if q.X < p.X || q.X == p.X && q.Y < p.Y {
		p, q = q, p
	}
	if axis == 0 {
		return api.Point{X: v, Y: p.Y + rounded((v-p.X)*(q.Y-p.Y), q.X-p.X)}
	}
	return api.Point{X: p.X + rounded((v-p.Y)*(q.X-p.X), q.Y-p.Y), Y: v}
}

// beyond reports whether the point is beyond side k of the box, in the order X0, X1, Y0, Y1.
func beyond(k int, b api.Box, p api.Point) bool {
	return [4]bool{p.X < b.X0, p.X > b.X1, p.Y < b.Y0, p.Y > b.Y1}[k]
}

func sideOf(k int, b api.Box) (axis, v int) { return k / 2, [4]int{b.X0, b.X1, b.Y0, b.Y1}[k] }

// ringBySides clips a ring side by side of the box, point by point.
func ringBySides(r []api.Point, b api.Box) []api.Point {
	for k := range 4 {
		var next []api.Point
		for i := range r {
			p, q := r[i], r[0]
			if i+1 < len(r) {
				q = r[i+1]
			}
			if !beyond(k, b, p) {
				next = append(next, p)
			}
			if beyond(k, b, p) != beyond(k, b, q) {
				axis, v := sideOf(k, b)
				next = append(next, cutAt(axis, v, p, q))
			}
		}
		r = next
	}
	var out []api.Point
	for _, p := range r {
		if len(out) == 0 || out[len(out)-1] != p {
			out = append(out, p)
		}
	}
	for len(out) > 0 && out[len(out)-1] == out[0] {
		if len(out) == 1 {
			return nil
		}
		out = out[:len(out)-1]
	}
	if len(out) < 3 || area(out) == 0 {
		return nil
	}
	return out
}

// area returns twice the signed area as a sum of triangles.
func area(r []api.Point) (sum int) {
	for i := 2; i < len(r); i++ {
		a, b, c := r[0], r[i-1], r[i]
		sum += (b.X-a.X)*(c.Y-a.Y) - (b.Y-a.Y)*(c.X-a.X)
	}
	return sum
}

// lineByPairs clips the pairs of a line one by one and joins the pieces.
func lineByPairs(l []api.Point, b api.Box) (out [][]api.Point) {
	type cutPair struct {
		p, q, from, to api.Point
		ok             bool
	}
	var pairs []cutPair
	for i := 1; i < len(l); i++ {
		if l[i-1] == l[i] {
			continue
		}
		x := cutPair{l[i-1], l[i], l[i-1], l[i], true}
		for k := range 4 {
			axis, v := sideOf(k, b)
			from, to := beyond(k, b, x.from), beyond(k, b, x.to)
			if from && to {
				x.ok = false
				break
			}
			if from {
				x.from = cutAt(axis, v, x.from, x.to)
			} else if to {
				x.to = cutAt(axis, v, x.from, x.to)
			}
		}
		x.ok = x.ok && x.from != x.to
		pairs = append(pairs, x)
	}
	for i, x := range pairs {
		if !x.ok {
			continue
		}
		if i > 0 && pairs[i-1].ok && pairs[i-1].to == x.from && x.from == x.p && pairs[i-1].to == pairs[i-1].q {
			out[len(out)-1] = append(out[len(out)-1], x.to)
			continue
		}
		out = append(out, []api.Point{x.from, x.to})
	}
	return out
}

// randomCase returns points and a box whose coordinates are at most size.
func randomCase(r *rand.Rand, size int) ([]api.Point, api.Box) {
	var l []api.Point
	for range r.Intn(9) {
		p := api.Point{X: r.Intn(size), Y: r.Intn(size)}
		if len(l) > 0 && r.Intn(6) == 0 {
			p = l[r.Intn(len(l))]
		}
		l = append(l, p)
	}
	a, b, c, d := r.Intn(size+1), r.Intn(size+1), r.Intn(size+1), r.Intn(size+1)
	return l, box(min(a, c), min(b, d), max(a, c), max(b, d))
}

func TestP12_2AllSides(t *testing.T) {
	r := rand.New(rand.NewSource(1))
	some := 0
	for i := range 60000 {
		l, b := randomCase(r, []int{6, 20, 500, api.Side}[i%4])
		got, want := Ring(l, b), ringBySides(l, b)
		if !slices.Equal(got, want) {
			t.Fatalf("Ring(%v, %v) is %v, not %v", l, b, got, want)
		}
		if len(got) > 0 {
			some++
		}
	}
	if some < 10000 {
		t.Errorf("only %d rings are left", some)
	}
}

func TestP12_3AllPairs(t *testing.T) {
	r := rand.New(rand.NewSource(2))
	joined := 0
	for i := range 60000 {
		l, b := randomCase(r, []int{6, 20, 500, api.Side}[i%4])
		got, want := Line(l, b), lineByPairs(l, b)
		if !equal(got, want) {
			t.Fatalf("Line(%v, %v) is %v, not %v", l, b, got, want)
		}
		for _, part := range got {
			if len(part) > 2 {
				joined++
			}
		}
	}
	if joined < 1000 {
		t.Errorf("only %d parts have more than one piece", joined)
	}
}

func inBox(p api.Point, b api.Box) bool {
	return b.X0 <= p.X && p.X <= b.X1 && b.Y0 <= p.Y && p.Y <= b.Y1
}

func TestP12_4InTheBox(t *testing.T) {
	r := rand.New(rand.NewSource(3))
	for i := range 30000 {
		l, b := randomCase(r, []int{6, 20, 500, api.Side}[i%4])
		ring, parts := Ring(l, b), Line(l, b)
		for _, part := range append(parts, ring) {
			for _, p := range part {
				if !inBox(p, b) {
					t.Fatalf("%v of the clipped %v is not in %v", p, l, b)
				}
			}
		}
		if again := Ring(ring, b); !slices.Equal(again, ring) {
			t.Fatalf("clipping the ring %v to %v again is %v", ring, b, again)
		}
		for _, part := range parts {
			if again := Line(part, b); !equal(again, [][]api.Point{part}) {
				t.Fatalf("clipping the line %v to %v again is %v", part, b, again)
			}
		}
	}
}

func TestP12_4Unchanged(t *testing.T) {
	r := rand.New(rand.NewSource(4))
	for range 20000 {
		l, _ := randomCase(r, 12)
		ring := TidyRing(l)
		if area(ring) == 0 {
			ring = nil
		}
		for _, b := range []api.Box{whole, box(0, 0, 11, 11)} {
			if got := Ring(l, b); !slices.Equal(got, ring) {
				t.Fatalf("Ring(%v, %v) is %v, not %v", l, b, got, ring)
			}
			line := [][]api.Point{Tidy(l)}
			if len(line[0]) < 2 {
				line = nil
			}
			if got := Line(l, b); !equal(got, line) {
				t.Fatalf("Line(%v, %v) is %v, not %v", l, b, got, line)
			}
		}
	}
}

func TestP12_Aliasing(t *testing.T) {
	calls := map[string]func(l []api.Point) [][]api.Point{
		"Line":     func(l []api.Point) [][]api.Point { return Line(l, box(1, 1, 7, 7)) },
		"Line in":  func(l []api.Point) [][]api.Point { return Line(l, whole) },
		"Ring":     func(l []api.Point) [][]api.Point { return [][]api.Point{Ring(l, box(1, 1, 7, 7))} },
		"Ring in":  func(l []api.Point) [][]api.Point { return [][]api.Point{Ring(l, whole)} },
		"Tidy":     func(l []api.Point) [][]api.Point { return [][]api.Point{Tidy(l)} },
		"TidyRing": func(l []api.Point) [][]api.Point { return [][]api.Point{TidyRing(l)} },
	}
	for name, call := range calls {
		spare := pts(0, 0, 0, 0, 8, 0, 9, 9, 9, 9, 0, 8, 3, 3, 0, 0, 77, 77, 77, 77)
		before := slices.Clone(spare)
		l := spare[:8]
		out := call(l)
		if !slices.Equal(spare, before) {
			t.Errorf("%s changes its argument", name)
		}
		want := call(slices.Clone(l))
		for i := range spare {
			spare[i] = api.Point{X: 5, Y: 5}
		}
		if !equal(out, want) {
			t.Errorf("the result of %s changes with its argument", name)
		}
		for i := range out {
			_ = append(out[i], api.Point{X: -7, Y: -7})
		}
		if !equal(out, want) {
			t.Errorf("parts of the result of %s share memory", name)
		}
	}
}
