package grid

import (
	"math"
	"math/big"
	"math/rand"
	"slices"
	"testing"

	"mapmaker/api"
)

// floor returns a * b / c, rounded toward minus infinity.
func floor(a, b, c int) int {
	p := new(big.Int).Mul(big.NewInt(int64(a)), big.NewInt(int64(b)))
	q, m := new(big.Int).DivMod(p, big.NewInt(int64(c)), new(big.Int))
	if m.Sign() < 0 {
		panic("DivMod leaves a negative rest")
	}
	return int(q.Int64())
}

func projected(c api.Coord) api.Point {
	x := floor(c.Lon+api.MaxLon, api.Side, 2*api.MaxLon)
	y := floor(api.MaxLat-c.Lat, api.Side, 2*api.MaxLat)
	return api.Point{X: min(x, api.Side-1), Y: min(y, api.Side-1)}
}

func center(p api.Point) api.Coord {
	return api.Coord{Lon: floor(2*p.X+1, api.MaxLon, api.Side) - api.MaxLon, Lat: api.MaxLat - floor(2*p.Y+1, api.MaxLat, api.Side)}
}

func TestP8_1Project(t *testing.T) {
	for _, y := range []struct {
		c api.Coord
		p api.Point
	}{
		{api.Coord{}, api.Point{X: 16384, Y: 16384}},
		{api.Coord{Lon: api.MaxLon, Lat: -api.MaxLat}, api.Point{X: 32767, Y: 32767}},
		{api.Coord{Lon: -api.MaxLon, Lat: api.MaxLat}, api.Point{}},
		{api.Coord{Lon: api.MaxLon, Lat: api.MaxLat}, api.Point{X: 32767}},
		{api.Coord{Lon: -1, Lat: 1}, api.Point{X: 16383, Y: 16383}},
		{api.Coord{Lon: 1, Lat: -1}, api.Point{X: 16384, Y: 16384}},
		{api.Coord{Lon: api.MaxLon - 1, Lat: 1 - api.MaxLat}, api.Point{X: 32767, Y: 32767}},
		// A column is 109863.28125 wide, a row half as much.
		{api.Coord{Lon: 109863 - api.MaxLon, Lat: api.MaxLat - 54931}, api.Point{}},
		{api.Coord{Lon: 109864 - api.MaxLon, Lat: api.MaxLat - 54932}, api.Point{X: 1, Y: 1}},
	} {
		if p, err := Project(y.c); p != y.p || err != api.OK {
			t.Errorf("Project(%v) is %v, %d, not %v", y.c, p, err, y.p)
		}
	}
}

func TestP8_1ProjectExact(t *testing.T) {
	r := rand.New(rand.NewSource(1))
	for range 100000 {
		c := api.Coord{Lon: r.Intn(2*api.MaxLon+1) - api.MaxLon, Lat: r.Intn(2*api.MaxLat+1) - api.MaxLat}
		if p, err := Project(c); p != projected(c) || err != api.OK {
			t.Fatalf("Project(%v) is %v, %d, not %v", c, p, err, projected(c))
		}
	}
	// Beside the borders of every column and row.
	for i := range api.Side + 1 {
		for d := -2; d <= 2; d++ {
			lon := i*2*api.MaxLon/api.Side - api.MaxLon + d
			lat := api.MaxLat - i*2*api.MaxLat/api.Side + d
			c := api.Coord{Lon: min(max(lon, -api.MaxLon), api.MaxLon), Lat: min(max(lat, -api.MaxLat), api.MaxLat)}
			if p, err := Project(c); p != projected(c) || err != api.OK {
				t.Fatalf("Project(%v) is %v, %d, not %v", c, p, err, projected(c))
			}
		}
	}
}

func TestP8_1ProjectInvalid(t *testing.T) {
	for _, c := range []api.Coord{
		{Lon: api.MaxLon + 1}, {Lon: -api.MaxLon - 1}, {Lat: api.MaxLat + 1}, {Lat: -api.MaxLat - 1},
		{Lon: math.MaxInt}, {Lon: math.MinInt}, {Lat: math.MaxInt}, {Lat: math.MinInt},
		{Lon: math.MinInt, Lat: math.MinInt}, {Lon: math.MaxInt, Lat: math.MaxInt},
	} {
		if p, err := Project(c); p != (api.Point{}) || err != api.ErrCoord {
			t.Errorf("Project(%v) is %v, %d", c, p, err)
		}
	}
}

func TestP8_1Center(t *testing.T) {
	for _, y := range []struct {
		p api.Point
		c api.Coord
	}{
		{api.Point{}, api.Coord{Lon: 54931 - api.MaxLon, Lat: api.MaxLat - 27465}},
		{api.Point{X: 16384, Y: 16384}, api.Coord{Lon: 54931, Lat: -27465}},
		{api.Point{X: 32767, Y: 32767}, api.Coord{Lon: 1799945068, Lat: -899972534}},
	} {
		if c, err := Center(y.p); c != y.c || err != api.OK {
			t.Errorf("Center(%v) is %v, %d, not %v", y.p, c, err, y.c)
		}
	}
	for i := range api.Side {
		p := api.Point{X: i, Y: api.Side - 1 - i}
		if c, err := Center(p); c != center(p) || err != api.OK {
			t.Fatalf("Center(%v) is %v, %d, not %v", p, c, err, center(p))
		}
	}
}

// strays are points that are not grid points.
func strays() []api.Point {
	return []api.Point{
		{X: -1}, {Y: -1}, {X: api.Side}, {Y: api.Side}, {X: -1, Y: -1}, {X: api.Side, Y: api.Side},
		{X: math.MinInt}, {Y: math.MinInt}, {X: math.MaxInt}, {Y: math.MaxInt}, {X: math.MaxInt, Y: math.MinInt},
	}
}

func TestP8_1Invalid(t *testing.T) {
	for _, p := range strays() {
		if c, err := Center(p); c != (api.Coord{}) || err != api.ErrCoord {
			t.Errorf("Center(%v) is %v, %d", p, c, err)
		}
		if Valid(p) {
			t.Errorf("%v is valid", p)
		}
	}
}

func TestP8_1Valid(t *testing.T) {
	const last = api.Side - 1
	for _, p := range []api.Point{{}, {X: last}, {Y: last}, {X: last, Y: last}, {X: 5, Y: 3}} {
		if !Valid(p) {
			t.Errorf("%v is not valid", p)
		}
	}
}

func TestP8_1Less(t *testing.T) {
	l := []api.Point{{X: math.MinInt, Y: math.MaxInt}, {X: -1, Y: 9}, {Y: -3}, {}, {Y: 1}, {X: 1, Y: math.MinInt}, {X: 1, Y: 8}, {X: 2}, {X: math.MaxInt, Y: math.MinInt}, {X: math.MaxInt, Y: math.MaxInt}}
	for i, a := range l {
		for j, b := range l {
			if Less(a, b) != (i < j) {
				t.Errorf("Less(%v, %v) is %v", a, b, Less(a, b))
			}
		}
	}
}

func TestP8_2Box(t *testing.T) {
	const last = api.Side - 1
	for _, y := range []struct {
		l []api.Point
		b api.Box
	}{
		{[]api.Point{{}}, api.Box{}},
		{[]api.Point{{X: 3, Y: 4}}, api.Box{X0: 3, Y0: 4, X1: 3, Y1: 4}},
		{[]api.Point{{X: 5, Y: 1}, {X: 2, Y: 7}}, api.Box{X0: 2, Y0: 1, X1: 5, Y1: 7}},
		{[]api.Point{{X: 5, Y: 1}, {X: 2, Y: 7}, {X: 4, Y: 4}}, api.Box{X0: 2, Y0: 1, X1: 5, Y1: 7}},
		{[]api.Point{{X: 4, Y: 4}, {X: 9, Y: 4}, {X: 4, Y: 0}, {X: 1, Y: 5}}, api.Box{X0: 1, Y0: 0, X1: 9, Y1: 5}},
		{[]api.Point{{X: last}, {Y: last}}, api.Box{X1: last, Y1: last}},
	} {
		before := slices.Clone(y.l)
		if b, ok := Box(y.l...); b != y.b || !ok {
			t.Errorf("Box(%v) is %v, %v, not %v", y.l, b, ok, y.b)
		}
		if !slices.Equal(y.l, before) {
			t.Error("Box changes its points")
		}
	}
	if b, ok := Box(); b != (api.Box{}) || ok {
		t.Errorf("Box() is %v, %v", b, ok)
	}
	for _, p := range strays() {
		for _, l := range [][]api.Point{{p}, {p, {X: 1, Y: 2}}, {{X: 1, Y: 2}, p}, {{X: 1, Y: 2}, p, {X: 3, Y: 2}}} {
			if b, ok := Box(l...); b != (api.Box{}) || ok {
				t.Errorf("Box(%v) is %v, %v", l, b, ok)
			}
		}
	}
}

// broken are boxes that are not valid.
func broken() []api.Box {
	const far = api.Side + 1
	return []api.Box{
		{X0: -1}, {Y0: -1}, {X1: far}, {Y1: far}, {X0: 2, X1: 1}, {Y0: 2, Y1: 1}, {X1: -1}, {Y1: -1},
		{X0: -1, Y0: -1, X1: far, Y1: far}, {X0: far, Y0: far, X1: far, Y1: far}, {X0: -2, Y0: -2, X1: -1, Y1: -1},
		{X0: math.MinInt, X1: math.MaxInt}, {Y0: math.MinInt, Y1: math.MaxInt}, {X0: math.MaxInt, X1: math.MinInt}, {X1: math.MaxInt}, {Y0: math.MinInt},
	}
}

func TestP8_2Check(t *testing.T) {
	const side = api.Side
	for _, b := range []api.Box{{}, {X1: side, Y1: side}, {X0: side, Y0: side, X1: side, Y1: side}, {X0: 3, Y0: 2, X1: 3, Y1: 2}, {X0: 1, X1: 2}, {Y0: 1, Y1: 2}} {
		if err := Check(b); err != api.OK {
			t.Errorf("Check(%v) is %d", b, err)
		}
	}
	for _, b := range broken() {
		if err := Check(b); err != api.ErrRange {
			t.Errorf("Check(%v) is %d", b, err)
		}
	}
}

func TestP8_2Invalid(t *testing.T) {
	whole := api.Box{X1: api.Side, Y1: api.Side}
	for _, b := range broken() {
		if Join(b, whole) != (api.Box{}) || Join(whole, b) != (api.Box{}) || Join(b, b) != (api.Box{}) {
			t.Errorf("Join of %v is not the zero box", b)
		}
		if Meets(b, whole) || Meets(whole, b) || Meets(b, b) {
			t.Errorf("%v meets a box", b)
		}
		for _, p := range []api.Point{{}, {X: 1, Y: 1}, {X: 9, Y: 9}, {X: api.Side - 1, Y: api.Side - 1}} {
			if Holds(b, p) || Dist2(b, p) != 0 {
				t.Errorf("Holds and Dist2 of %v and %v are %v, %d", b, p, Holds(b, p), Dist2(b, p))
			}
		}
	}
	for _, p := range strays() {
		for _, b := range []api.Box{whole, {}, {X0: 5, Y0: 5, X1: 6, Y1: 6}} {
			if Holds(b, p) || Dist2(b, p) != 0 {
				t.Errorf("Holds and Dist2 of %v and %v are %v, %d", b, p, Holds(b, p), Dist2(b, p))
			}
		}
	}
}

func TestP8_2Examples(t *testing.T) {
	b := api.Box{X1: 10, Y1: 10}
	for _, y := range []struct {
		p api.Point
		n int
	}{{api.Point{X: 13, Y: 14}, 25}, {api.Point{X: 13, Y: 4}, 9}, {api.Point{X: 4, Y: 12}, 4}, {api.Point{X: 10, Y: 10}, 0}, {api.Point{}, 0}} {
		if n := Dist2(b, y.p); n != y.n {
			t.Errorf("Dist2 of %v is %d, not %d", y.p, n, y.n)
		}
	}
	const side = api.Side
	if n := Dist2(api.Box{X0: side, Y0: side, X1: side, Y1: side}, api.Point{}); n != 2*side*side {
		t.Errorf("Dist2 across the grid is %d", n)
	}
	if Join(api.Box{X1: 1, Y1: 1}, api.Box{X0: side, Y0: side, X1: side, Y1: side}) != (api.Box{X1: side, Y1: side}) {
		t.Error("Join of opposite corners")
	}
}

// eachBox calls f for every box with corners from lo to hi.
func eachBox(lo, hi int, f func(b api.Box)) {
	for x0 := lo; x0 <= hi; x0++ {
		for x1 := x0; x1 <= hi; x1++ {
			for y0 := lo; y0 <= hi; y0++ {
				for y1 := y0; y1 <= hi; y1++ {
					f(api.Box{X0: x0, Y0: y0, X1: x1, Y1: y1})
				}
			}
		}
	}
}

// eachPoint calls f for every point with coordinates from lo to hi.
func eachPoint(lo, hi int, f func(p api.Point)) {
	for x := lo; x <= hi; x++ {
		for y := lo; y <= hi; y++ {
			f(api.Point{X: x, Y: y})
		}
	}
}

func inside(b api.Box, p api.Point) bool {
	return b.X0 <= p.X && p.X <= b.X1 && b.Y0 <= p.Y && p.Y <= b.Y1
}

// Integer corners suffice to see whether two boxes meet: they meet in a rectangle whose corners are integers.
func TestP8_2AllSmallBoxes(t *testing.T) {
	for _, lo := range []int{0, 7, api.Side - 4} {
		eachBox(lo, lo+3, func(a api.Box) {
			eachPoint(lo, lo+3, func(p api.Point) {
				least := math.MaxInt
				eachPoint(lo, lo+4, func(q api.Point) {
					if inside(a, q) {
						least = min(least, (p.X-q.X)*(p.X-q.X)+(p.Y-q.Y)*(p.Y-q.Y))
					}
				})
				if Holds(a, p) != inside(a, p) || Dist2(a, p) != least {
					t.Fatalf("Holds and Dist2 of %v and %v are %v, %d", a, p, Holds(a, p), Dist2(a, p))
				}
			})
			eachBox(lo, lo+3, func(b api.Box) {
				common := false
				eachPoint(lo, lo+4, func(p api.Point) { common = common || inside(a, p) && inside(b, p) })
				if Meets(a, b) != common {
					t.Fatalf("Meets(%v, %v) is %v", a, b, Meets(a, b))
				}
				want := api.Box{X0: min(a.X0, b.X0), Y0: min(a.Y0, b.Y0), X1: max(a.X1, b.X1), Y1: max(a.Y1, b.Y1)}
				if Join(a, b) != want {
					t.Fatalf("Join(%v, %v) is %v", a, b, Join(a, b))
				}
			})
		})
	}
}

func TestP8_3ProjectCenter(t *testing.T) {
	for i := range api.Side {
		p := api.Point{X: i, Y: (i * 7) % api.Side}
		c, err := Center(p)
		if err != api.OK {
			t.Fatal(p, err)
		}
		if q, err := Project(c); q != p || err != api.OK {
			t.Fatalf("Project(Center(%v)) is %v, %d", p, q, err)
		}
	}
}

func TestP8_3Boxes(t *testing.T) {
	r := rand.New(rand.NewSource(2))
	box := func() api.Box {
		x, y := []int{r.Intn(api.Side + 1), r.Intn(api.Side + 1)}, []int{r.Intn(api.Side + 1), r.Intn(api.Side + 1)}
		return api.Box{X0: slices.Min(x), X1: slices.Max(x), Y0: slices.Min(y), Y1: slices.Max(y)}
	}
	for range 20000 {
		a, b, p := box(), box(), api.Point{X: r.Intn(api.Side), Y: r.Intn(api.Side)}
		if Meets(a, b) != Meets(b, a) {
			t.Fatalf("Meets of %v and %v is not symmetric", a, b)
		}
		j := Join(a, b)
		if Check(j) != api.OK || Join(j, a) != j || Join(j, b) != j || j != Join(b, a) {
			t.Fatalf("Join of %v and %v is %v", a, b, j)
		}
		if (Dist2(a, p) == 0) != Holds(a, p) {
			t.Fatalf("Dist2 and Holds of %v and %v", a, p)
		}
	}
}
