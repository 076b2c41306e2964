package poly

import (
	"math"
	"math/big"
	"math/rand"
	"slices"
	"testing"

	"mapmaker/api"
	"mapmaker/grid"
	"mapmaker/seg"
)

// ring returns the points with these coordinates in turn.
func ring(numbers ...int) (out []api.Point) {
	for i := 0; i < len(numbers); i += 2 {
		out = append(out, api.Point{X: numbers[i], Y: numbers[i+1]})
	}
	return out
}

// wrong has points that are not grid points.
var wrong = []api.Point{{X: -1}, {Y: -1}, {X: api.Side}, {Y: api.Side}, {X: math.MinInt, Y: 3}, {X: 3, Y: math.MaxInt}}

// random returns a ring of n points with coordinates below size, some of them perhaps equal.
func random(r *rand.Rand, n, size int) (out []api.Point) {
	for range n {
		out = append(out, api.Point{X: r.Intn(size), Y: r.Intn(size)})
	}
	return out
}

// all calls see for every ring of n points with coordinates below size.
func all(n, size int, see func(r []api.Point)) {
	var extend func(r []api.Point)
	extend = func(r []api.Point) {
		if len(r) == n {
			see(r)
			return
		}
		for x := range size {
			for y := range size {
				extend(append(r, api.Point{X: x, Y: y}))
			}
		}
	}
	extend(nil)
}

func rotate(r []api.Point, k int) []api.Point { return slices.Concat(r[k:], r[:k]) }

func TestP11_1Area2(t *testing.T) {
	const last = api.Side - 1
	for _, y := range []struct {
		r    []api.Point
		want int
	}{
		{ring(0, 0, 4, 0, 4, 4, 0, 4), 32}, {ring(0, 4, 4, 4, 4, 0, 0, 0), -32}, {ring(0, 0, last, 0, last, last, 0, last), 2 * last * last},
		{nil, 0}, {ring(5, 6), 0}, {ring(5, 6, 7, 9), 0}, {ring(1, 1, 2, 2, 3, 3), 0}, {ring(0, 0, 1, 0, 0, 1), 1},
		// Both halves of a crossed square cancel each other; a ring around twice counts twice.
		{ring(0, 0, 4, 4, 4, 0, 0, 4), 0}, {ring(0, 0, 4, 0, 4, 4, 0, 0, 4, 0, 4, 4), 32}, {ring(0, 0, 0, 0, 4, 0, 4, 4), 16},
	} {
		if n := Area2(y.r); n != y.want {
			t.Errorf("Area2(%v) is %d, not %d", y.r, n, y.want)
		}
	}
	r := rand.New(rand.NewSource(1))
	for range 2000 {
		l := random(r, r.Intn(9), api.Side)
		want := new(big.Int)
		for i, p := range l {
			q := l[(i+1)%len(l)]
			want.Add(want, new(big.Int).Mul(big.NewInt(int64(p.X)), big.NewInt(int64(q.Y))))
			want.Sub(want, new(big.Int).Mul(big.NewInt(int64(p.Y)), big.NewInt(int64(q.X))))
		}
		if n := Area2(l); want.Cmp(big.NewInt(int64(n))) != 0 {
			t.Fatalf("Area2(%v) is %d, not %v", l, n, want)
		}
	}
}

func TestP11_1Invalid(t *testing.T) {
	square := ring(0, 0, 4, 0, 4, 4, 0, 4)
	for _, p := range wrong {
		for i := range 5 {
			l := slices.Insert(slices.Clone(square), i, p)
			if Area2(l) != 0 || Simple(l) || len(Segs(l)) != 0 || Where(l, api.Point{X: 1, Y: 1}) != api.Outside || Where(l, square[0]) != api.Outside {
				t.Errorf("a result for %v", l)
			}
		}
		if Where(square, p) != api.Outside {
			t.Errorf("%v is not Outside", p)
		}
	}
}

func TestP11_1Segs(t *testing.T) {
	s := func(a, b, c, d int) api.Seg { return api.Seg{A: api.Point{X: a, Y: b}, B: api.Point{X: c, Y: d}} }
	for _, y := range []struct {
		r    []api.Point
		want []api.Seg
	}{
		{nil, nil}, {ring(3, 3), nil}, {ring(3, 3, 3, 3), nil},
		{ring(3, 3, 1, 5), []api.Seg{s(1, 5, 3, 3), s(1, 5, 3, 3)}},
		{ring(4, 0, 0, 0, 0, 4), []api.Seg{s(0, 0, 4, 0), s(0, 0, 0, 4), s(0, 4, 4, 0)}},
		{ring(4, 0, 4, 0, 0, 0, 0, 4, 4, 0), []api.Seg{s(0, 0, 4, 0), s(0, 0, 0, 4), s(0, 4, 4, 0)}},
		{ring(1, 0, 2, 0, 1, 0, 2, 0), []api.Seg{s(1, 0, 2, 0), s(1, 0, 2, 0), s(1, 0, 2, 0), s(1, 0, 2, 0)}},
	} {
		if l := Segs(y.r); !slices.Equal(l, y.want) {
			t.Errorf("Segs(%v) is %v, not %v", y.r, l, y.want)
		}
	}
}

// simple tests all pairs of points and of segments.
func simple(r []api.Point) bool {
	n := len(r)
	if n < 3 {
		return false
	}
	for i := range n {
		for j := range i {
			if r[i] == r[j] {
				return false
			}
		}
	}
	for i := range n {
		for j := range i {
			s, u := seg.Of(r[i], r[(i+1)%n]), seg.Of(r[j], r[(j+1)%n])
			want := seg.Apart
			if i == j+1 || i == n-1 && j == 0 {
				want = seg.Touch
			}
			if seg.Relate(s, u) != want {
				return false
			}
		}
	}
	return true
}

func TestP11_1Simple(t *testing.T) {
	for _, y := range []struct {
		r    []api.Point
		want bool
	}{
		{ring(0, 0, 4, 0, 4, 4, 0, 4), true}, {ring(0, 4, 4, 4, 4, 0, 0, 0), true}, {ring(4, 4, 0, 4, 0, 0, 4, 0, 2, 2), true}, {ring(0, 0, 2, 0, 4, 0, 0, 4), true},
		{nil, false}, {ring(1, 1), false}, {ring(1, 1, 2, 2), false}, {ring(0, 0, 1, 0, 2, 0), false}, {ring(0, 0, 2, 0, 1, 0), false},
		{ring(0, 0, 4, 4, 4, 0, 0, 4), false},                   // crosses itself
		{ring(0, 0, 4, 0, 4, 4, 2, 0), false},                   // a point on a side
		{ring(0, 0, 4, 0, 4, 4, 0, 4, 0, 0), false},             // the first point again
		{ring(0, 0, 4, 0, 4, 0, 4, 4), false},                   // a point twice in a row
		{ring(0, 0, 2, 2, 4, 0, 4, 4, 2, 2, 0, 4), false},       // touches itself at a point
		{ring(0, 0, 4, 0, 6, 0, 4, 0, 4, 4), false},             // a spike
		{ring(0, 0, 4, 0, 4, 4, 3, 4, 3, 0, 2, 0, 2, 4), false}, // runs along itself
	} {
		if ok := Simple(y.r); ok != y.want {
			t.Errorf("Simple(%v) is %v", y.r, ok)
		}
	}
	for n := range 5 {
		all(n, 3, func(r []api.Point) {
			if Simple(r) != simple(r) {
				t.Fatalf("Simple(%v) is %v", r, Simple(r))
			}
		})
	}
	r := rand.New(rand.NewSource(2))
	for range 20000 {
		l := random(r, 3+r.Intn(5), 2+r.Intn(9))
		if Simple(l) != simple(l) {
			t.Fatalf("Simple(%v) is %v", l, Simple(l))
		}
	}
}

// star returns a simple ring of n points around the middle of the grid.
func star(r *rand.Rand, n int) (out []api.Point) {
	for i := range n {
		angle := 2 * math.Pi * float64(i) / float64(n)
		far := float64(4000 + r.Intn(12000))
		out = append(out, api.Point{X: api.Side/2 + int(far*math.Cos(angle)), Y: api.Side/2 + int(far*math.Sin(angle))})
	}
	return out
}

func TestP11_1SimpleLarge(t *testing.T) {
	r := rand.New(rand.NewSource(3))
	l := star(r, 500)
	if !Simple(l) || !Simple(Reverse(l)) {
		t.Error("a star is not Simple")
	}
	// Exchanging two points that are far from each other makes sides cross.
	l[10], l[260] = l[260], l[10]
	if Simple(l) {
		t.Error("a star with exchanged points is Simple")
	}
}

func TestP11_2CanonReverse(t *testing.T) {
	for _, y := range []struct{ r, canon, reverse []api.Point }{
		{nil, nil, nil}, {ring(3, 1), ring(3, 1), ring(3, 1)},
		{ring(4, 4, 0, 4, 0, 0, 4, 0), ring(0, 0, 4, 0, 4, 4, 0, 4), ring(4, 0, 0, 0, 0, 4, 4, 4)},
		// The first one among equal smallest points.
		{ring(5, 5, 1, 1, 2, 2, 1, 1, 3, 3), ring(1, 1, 2, 2, 1, 1, 3, 3, 5, 5), ring(3, 3, 1, 1, 2, 2, 1, 1, 5, 5)},
		{ring(math.MaxInt, 0, math.MinInt, 7, math.MinInt, -7), ring(math.MinInt, -7, math.MaxInt, 0, math.MinInt, 7), ring(math.MinInt, -7, math.MinInt, 7, math.MaxInt, 0)},
	} {
		if l := Canon(y.r); !slices.Equal(l, y.canon) {
			t.Errorf("Canon(%v) is %v, not %v", y.r, l, y.canon)
		}
		if l := Reverse(y.r); !slices.Equal(l, y.reverse) {
			t.Errorf("Reverse(%v) is %v, not %v", y.r, l, y.reverse)
		}
	}
}

func TestP11_2Less(t *testing.T) {
	lists := [][]api.Point{nil, ring(math.MinInt, 0), ring(0, 0), ring(0, 0, 0, 0), ring(0, 0, 0, 1), ring(0, 0, 0, 1, -5, 9), ring(0, 0, 1, 0), ring(0, 1), ring(1, 0), ring(1, 0, -9, -9), ring(math.MaxInt, math.MaxInt)}
	for i, a := range lists {
		for j, b := range lists {
			if Less(a, b) != (i < j) {
				t.Errorf("Less(%v, %v) is %v", a, b, !(i < j))
			}
		}
	}
}

// where computes the crossings with exact fractions.
func where(r []api.Point, p api.Point) int {
	if len(r) < 3 {
		return api.Outside
	}
	inside := false
	for i, a := range r {
		b := r[(i+1)%len(r)]
		if a == p || seg.On(p, a, b) {
			return api.On
		}
		if (a.Y > p.Y) != (b.Y > p.Y) {
			x := big.NewRat(int64((p.Y-a.Y)*(b.X-a.X)), int64(b.Y-a.Y))
			if x.Add(x, big.NewRat(int64(a.X), 1)).Cmp(big.NewRat(int64(p.X), 1)) > 0 {
				inside = !inside
			}
		}
	}
	if inside {
		return api.Inside
	}
	return api.Outside
}

func TestP11_2Where(t *testing.T) {
	square := ring(0, 0, 4, 0, 4, 4, 0, 4)
	for _, y := range []struct {
		r    []api.Point
		p    api.Point
		want int
	}{
		{square, api.Point{X: 2, Y: 2}, api.Inside}, {square, api.Point{X: 4, Y: 2}, api.On}, {square, api.Point{X: 5, Y: 5}, api.Outside}, {square, api.Point{X: 0, Y: 0}, api.On},
		{nil, api.Point{}, api.Outside}, {ring(1, 1), api.Point{X: 1, Y: 1}, api.Outside}, {ring(0, 0, 2, 0), api.Point{X: 1}, api.Outside},
		{ring(0, 0, 2, 0, 4, 0), api.Point{X: 3}, api.On}, {ring(1, 1, 1, 1, 1, 1), api.Point{X: 1, Y: 1}, api.On}, {ring(1, 1, 1, 1, 1, 1), api.Point{X: 1, Y: 2}, api.Outside},
		// By the even-odd rule the part that is surrounded twice is outside.
		{ring(0, 0, 9, 0, 9, 9, 0, 9, 0, 0, 5, 0, 5, 5, 0, 5), api.Point{X: 2, Y: 2}, api.Outside},
	} {
		if w := Where(y.r, y.p); w != y.want {
			t.Errorf("Where(%v, %v) is %d, not %d", y.r, y.p, w, y.want)
		}
	}
	r := rand.New(rand.NewSource(4))
	for range 3000 {
		l := random(r, r.Intn(8), 7)
		for x := range 8 {
			for y := range 8 {
				p := api.Point{X: x, Y: y}
				if w := Where(l, p); w != where(l, p) {
					t.Fatalf("Where(%v, %v) is %d, not %d", l, p, w, where(l, p))
				}
			}
		}
	}
	for range 3000 {
		l := random(r, 3+r.Intn(8), api.Side)
		p := random(r, 1, api.Side)[0]
		if w := Where(l, p); w != where(l, p) {
			t.Fatalf("Where(%v, %v) is %d, not %d", l, p, w, where(l, p))
		}
	}
}

func TestP11_3ReverseRotate(t *testing.T) {
	r := rand.New(rand.NewSource(5))
	for range 3000 {
		size := 2 + r.Intn(8)
		l := random(r, 1+r.Intn(8), size)
		turned := rotate(l, r.Intn(len(l)))
		if Area2(Reverse(l)) != -Area2(l) || Area2(turned) != Area2(l) {
			t.Fatalf("Area2 of %v reversed or rotated", l)
		}
		for range 9 {
			p := random(r, 1, size+1)[0]
			if w := Where(l, p); Where(Reverse(l), p) != w || Where(turned, p) != w {
				t.Fatalf("Where of %v and %v reversed or rotated", l, p)
			}
		}
		if Simple(l) && (Area2(l) == 0 || !Simple(Reverse(l)) || !Simple(turned)) {
			t.Fatalf("%v is Simple", l)
		}
		first := Canon(l)[0]
		if slices.ContainsFunc(l, func(p api.Point) bool { return grid.Less(p, first) }) {
			t.Fatalf("Canon(%v) is %v", l, Canon(l))
		}
	}
}

// TestP11_Aliasing checks that the functions neither change their arguments nor return their memory.
func TestP11_Aliasing(t *testing.T) {
	l := ring(4, 4, 0, 4, 0, 0, 4, 0, 9, 9)[:4]
	spare := func() []api.Point { return l[:5] }
	before := slices.Clone(spare())
	for _, out := range [][]api.Point{Canon(l), Reverse(l)} {
		for i := range out {
			out[i] = api.Point{X: 7, Y: 7}
		}
	}
	Segs(l)
	Simple(l)
	Where(l, l[0])
	if !slices.Equal(spare(), before) {
		t.Errorf("the ring became %v", spare())
	}
}
