package quant

import (
	"math"
	"math/rand"
	"slices"
	"testing"

	"mapmaker/api"
	"mapmaker/clip"
)

func at(x, y int) api.Point { return api.Point{X: x, Y: y} }

// ring returns the points whose X and Y are given in turn.
func ring(l ...int) (out []api.Point) {
	for i := 0; i < len(l); i += 2 {
		out = append(out, at(l[i], l[i+1]))
	}
	return out
}

func same(a, b [][]api.Point) bool {
	return slices.EqualFunc(a, b, func(x, y []api.Point) bool { return slices.Equal(x, y) })
}

// wrongTiles are tiles that do not exist.
var wrongTiles = []api.Tile{{Z: -1}, {Z: 8}, {Z: 0, X: 1}, {Z: 0, Y: 1}, {Z: 3, X: 8}, {Z: 3, Y: -1}, {Z: 7, X: 128}, {Z: math.MaxInt}, {Z: math.MinInt, X: math.MaxInt, Y: math.MinInt}}

func TestP29_1Point(t *testing.T) {
	tile := api.Tile{Z: 1, X: 1, Y: 0} // from 16384 0 to 32768 16384, 64 grid points for a coordinate
	for _, x := range []struct {
		tile api.Tile
		p    api.Point
		want api.Point
		ok   bool
	}{
		{api.Tile{}, at(300, 128), at(2, 1), true},
		{api.Tile{}, at(0, 0), at(0, 0), true},
		{api.Tile{}, at(127, 128), at(0, 1), true},
		{api.Tile{}, at(32767, 32767), at(255, 255), true},
		{api.Tile{}, at(32768, 32768), at(256, 256), true},
		{api.Tile{}, at(32769, 0), api.Point{}, false},
		{api.Tile{}, at(0, 32769), api.Point{}, false},
		{api.Tile{}, at(-1, 0), api.Point{}, false},
		{api.Tile{}, at(0, -1), api.Point{}, false},
		{tile, at(16384, 0), at(0, 0), true},
		{tile, at(16384+63, 64), at(0, 1), true},
		{tile, at(32768, 16384), at(256, 256), true},
		{tile, at(32767, 16383), at(255, 255), true},
		{tile, at(16383, 0), api.Point{}, false},
		{tile, at(32769, 0), api.Point{}, false},
		{tile, at(20000, 16385), api.Point{}, false},
		{tile, at(20000, -1), api.Point{}, false},
		{api.Tile{Z: 7, X: 1, Y: 2}, at(256+5, 512+9), at(5, 9), true},
		{api.Tile{Z: 7, X: 127, Y: 127}, at(32768, 32768), at(256, 256), true},
		{tile, at(math.MaxInt, 5), api.Point{}, false},
		{tile, at(math.MinInt, 5), api.Point{}, false},
		{tile, at(20000, math.MaxInt), api.Point{}, false},
		{tile, at(20000, math.MinInt), api.Point{}, false},
	} {
		if got, ok := Point(x.tile, x.p); got != x.want || ok != x.ok {
			t.Errorf("Point(%v, %v) is %v, %v, not %v, %v", x.tile, x.p, got, ok, x.want, x.ok)
		}
	}
	for _, tile := range wrongTiles {
		if got, ok := Point(tile, at(5, 5)); got != (api.Point{}) || ok {
			t.Errorf("Point of the tile %v is %v, %v", tile, got, ok)
		}
	}
}

func TestP29_1Back(t *testing.T) {
	tile := api.Tile{Z: 1, X: 1, Y: 0}
	for _, x := range []struct {
		tile api.Tile
		q    api.Point
		want api.Point
		ok   bool
	}{
		{api.Tile{}, at(2, 1), at(256, 128), true},
		{api.Tile{}, at(256, 256), at(32768, 32768), true},
		{tile, at(0, 0), at(16384, 0), true},
		{tile, at(3, 256), at(16384+192, 16384), true},
		{api.Tile{Z: 7, X: 1, Y: 2}, at(5, 256), at(261, 768), true},
		{tile, at(257, 0), api.Point{}, false},
		{tile, at(0, 257), api.Point{}, false},
		{tile, at(-1, 0), api.Point{}, false},
		{tile, at(0, -1), api.Point{}, false},
		{tile, at(math.MaxInt, 0), api.Point{}, false},
		{tile, at(0, math.MinInt), api.Point{}, false},
	} {
		if got, ok := Back(x.tile, x.q); got != x.want || ok != x.ok {
			t.Errorf("Back(%v, %v) is %v, %v, not %v, %v", x.tile, x.q, got, ok, x.want, x.ok)
		}
	}
	for _, tile := range wrongTiles {
		if got, ok := Back(tile, at(5, 5)); got != (api.Point{}) || ok {
			t.Errorf("Back of the tile %v is %v, %v", tile, got, ok)
		}
	}
}

func randomTile(r *rand.Rand) api.Tile {
	z := r.Intn(8)
	return api.Tile{Z: z, X: r.Intn(1 << z), Y: r.Intn(1 << z)}
}

func TestP29_3Inverse(t *testing.T) {
	r := rand.New(rand.NewSource(1))
	for range 20000 {
		tile := randomTile(r)
		size := api.Side >> tile.Z
		q := at(r.Intn(api.Extent+1), r.Intn(api.Extent+1))
		p, ok := Back(tile, q)
		if !ok {
			t.Fatalf("Back(%v, %v) is false", tile, q)
		}
		if got, ok := Point(tile, p); got != q || !ok {
			t.Fatalf("Point(%v, %v) is %v, %v, not %v", tile, p, got, ok, q)
		}
		p = at(tile.X*size+r.Intn(size+1), tile.Y*size+r.Intn(size+1))
		q, ok = Point(tile, p)
		if !ok || q.X < 0 || q.X > api.Extent || q.Y < 0 || q.Y > api.Extent {
			t.Fatalf("Point(%v, %v) is %v, %v", tile, p, q, ok)
		}
		// The point is in the cell of its coordinates.
		back, ok := Back(tile, q)
		if unit := size / api.Extent; !ok || p.X-back.X < 0 || p.X-back.X >= unit || p.Y-back.Y < 0 || p.Y-back.Y >= unit {
			t.Fatalf("Back(%v, %v) is %v, %v, for %v", tile, q, back, ok, p)
		}
		if tile.Z == api.MaxZoom && back != p {
			t.Fatalf("Back(%v, %v) is %v, not %v", tile, q, back, p)
		}
	}
}

func TestP29_2Line(t *testing.T) {
	for _, x := range []struct {
		name string
		tile api.Tile
		l    []api.Point
		want [][]api.Point
	}{
		{"within", api.Tile{Z: 7}, ring(1, 2, 30, 40, 5, 6), [][]api.Point{ring(1, 2, 30, 40, 5, 6)}},
		{"leaving", api.Tile{Z: 7}, ring(250, 10, 260, 10), [][]api.Point{ring(250, 10, 256, 10)}},
		{"leaving and returning", api.Tile{Z: 7}, ring(250, 10, 260, 10, 260, 20, 250, 20), [][]api.Point{ring(250, 10, 256, 10), ring(256, 20, 250, 20)}},
		{"points that become equal", api.Tile{}, ring(1, 1, 100, 100, 200, 100, 255, 127, 300, 128), [][]api.Point{ring(0, 0, 1, 0, 2, 1)}},
		{"one position", api.Tile{}, ring(1, 1, 100, 100), nil},
		{"a part in one position", api.Tile{Z: 6}, ring(511, 10, 513, 10, 513, 20, 500, 20), [][]api.Point{ring(255, 5, 256, 5), ring(256, 10, 250, 10)}},
		{"a part in one position only", api.Tile{Z: 6, X: 1}, ring(511, 10, 513, 10, 513, 13, 511, 13, 511, 99, 600, 99), [][]api.Point{ring(0, 5, 0, 6), ring(0, 49, 44, 49)}},
		{"a short part before another", api.Tile{Z: 6, X: 1}, ring(511, 10, 513, 10, 513, 11, 511, 11, 511, 99, 600, 99), [][]api.Point{ring(0, 49, 44, 49)}},
		{"outside", api.Tile{Z: 7}, ring(300, 10, 400, 10), nil},
		{"a point", api.Tile{Z: 7}, ring(10, 10), nil},
		{"none", api.Tile{Z: 7}, nil, nil},
		{"the same point", api.Tile{Z: 7}, ring(10, 10, 10, 10), nil},
		{"beyond the grid", api.Tile{}, ring(10, 10, api.Side, 10), nil},
		{"far beyond the grid", api.Tile{}, ring(math.MinInt, 10, math.MaxInt, 10), nil},
	} {
		if got := Line(x.tile, x.l); !same(got, x.want) {
			t.Errorf("Line of %s is %v, not %v", x.name, got, x.want)
		}
	}
	for _, tile := range wrongTiles {
		if got := Line(tile, ring(1, 1, 200, 200)); len(got) > 0 {
			t.Errorf("Line of the tile %v is %v", tile, got)
		}
	}
}

func TestP29_2Area(t *testing.T) {
	outer, hole := ring(0, 0, 10, 0, 10, 10, 0, 10), ring(2, 2, 2, 4, 4, 4, 4, 2)
	for _, x := range []struct {
		name  string
		tile  api.Tile
		rings [][]api.Point
		want  [][]api.Point
	}{
		{"within", api.Tile{Z: 7}, [][]api.Point{outer, hole}, [][]api.Point{outer, hole}},
		{"in order", api.Tile{Z: 7}, [][]api.Point{hole, outer, hole}, [][]api.Point{hole, outer, hole}},
		{"too small", api.Tile{}, [][]api.Point{outer, hole}, nil},
		{"one of them too small", api.Tile{Z: 5}, [][]api.Point{ring(0, 0, 40, 0, 40, 40, 0, 40), ring(4, 4, 4, 7, 7, 7, 7, 4)}, [][]api.Point{ring(0, 0, 10, 0, 10, 10, 0, 10)}},
		{"the end equal to the beginning", api.Tile{}, [][]api.Point{ring(0, 0, 1000, 0, 1000, 1000, 100, 100)}, [][]api.Point{ring(0, 0, 7, 0, 7, 7)}},
		{"two positions", api.Tile{}, [][]api.Point{ring(0, 0, 1000, 0, 1000, 100)}, nil},
		{"no area left", api.Tile{}, [][]api.Point{ring(0, 0, 1000, 0, 2000, 100, 100, 100)}, nil},
		{"another sign", api.Tile{}, [][]api.Point{ring(127, 0, 384, 200, 127, 127, 0, 255, 128, 255)}, nil},
		{"the part with another sign", api.Tile{Z: 7}, [][]api.Point{ring(100, 0, 500, 200, 500, 0, 100, 50)}, nil},
		{"without area, but not its part", api.Tile{Z: 7}, [][]api.Point{ring(206, 0, 306, 100, 306, 0, 206, 100)}, nil},
		{"outside", api.Tile{Z: 7}, [][]api.Point{ring(300, 0, 310, 0, 310, 10)}, nil},
		{"none", api.Tile{Z: 7}, nil, nil},
		{"no rings", api.Tile{Z: 7}, [][]api.Point{nil, ring(1, 1), ring(1, 1, 9, 9)}, nil},
		{"beyond the grid", api.Tile{}, [][]api.Point{ring(0, 0, api.Side, 0, api.Side, api.Side), ring(math.MinInt, 0, math.MaxInt, 9, 0, math.MaxInt)}, nil},
	} {
		if got := Area(x.tile, x.rings); !same(got, x.want) {
			t.Errorf("Area of %s is %v, not %v", x.name, got, x.want)
		}
	}
	for _, tile := range wrongTiles {
		if got := Area(tile, [][]api.Point{ring(0, 0, 30000, 0, 30000, 30000)}); len(got) > 0 {
			t.Errorf("Area of the tile %v is %v", tile, got)
		}
	}
}

func signOfArea(r []api.Point) int {
	sum := 0
	for i, p := range r {
		q := r[(i+1)%len(r)]
		sum += p.X*q.Y - q.X*p.Y
	}
	return max(min(sum, 1), -1)
}

// converted returns the tile coordinates by the formula of the chapter.
func converted(tile api.Tile, l []api.Point) (out []api.Point) {
	size := api.Side >> tile.Z
	for _, p := range l {
		out = append(out, at((p.X-tile.X*size)*256/size, (p.Y-tile.Y*size)*256/size))
	}
	return out
}

func inExtent(l [][]api.Point) bool {
	for _, part := range l {
		for _, p := range part {
			if p.X < 0 || p.X > api.Extent || p.Y < 0 || p.Y > api.Extent {
				return false
			}
		}
	}
	return true
}

// near returns random points in and around the tile; some are close to each other.
func near(r *rand.Rand, tile api.Tile, n int) (out []api.Point) {
	size := api.Side >> tile.Z
	reach := []int{size/100 + 2, 2 * size}[r.Intn(2)]
	x, y := tile.X*size-size/2+r.Intn(size*2), tile.Y*size-size/2+r.Intn(size*2)
	for range n {
		p := at(x+r.Intn(reach)-reach/2, y+r.Intn(reach)-reach/2)
		out = append(out, at(max(0, min(p.X, api.Side-1)), max(0, min(p.Y, api.Side-1))))
	}
	return out
}

func TestP29_2ByParts(t *testing.T) {
	r := rand.New(rand.NewSource(2))
	count := [3]int{}
	for range 20000 {
		tile := randomTile(r)
		size := api.Side >> tile.Z
		box := api.Box{X0: tile.X * size, Y0: tile.Y * size, X1: (tile.X + 1) * size, Y1: (tile.Y + 1) * size}
		l := near(r, tile, 2+r.Intn(5))
		var want [][]api.Point
		for _, part := range clip.Line(l, box) {
			if c := slices.Compact(converted(tile, part)); len(c) > 1 {
				want = append(want, c)
			}
		}
		got := Line(tile, l)
		if !same(got, want) || !inExtent(got) {
			t.Fatalf("Line(%v, %v) is %v, not %v", tile, l, got, want)
		}
		count[0] += len(want)
		var rings [][]api.Point
		for range r.Intn(3) {
			rings = append(rings, near(r, tile, 3+r.Intn(3)))
		}
		want = nil
		for _, x := range rings {
			c := clip.TidyRing(converted(tile, clip.Ring(x, box)))
			if s := signOfArea(c); s != 0 && s == signOfArea(x) {
				want = append(want, c)
			} else if s != 0 {
				count[2]++
			}
		}
		got = Area(tile, rings)
		if !same(got, want) || !inExtent(got) {
			t.Fatalf("Area(%v, %v) is %v, not %v", tile, rings, got, want)
		}
		count[1] += len(want)
	}
	if count[0] < 5000 || count[1] < 5000 || count[2] < 100 {
		t.Errorf("there are only %v results", count)
	}
}

func TestP29_Aliasing(t *testing.T) {
	l := append(ring(1, 1, 1, 1, 50, 60, 300, 60), at(77, 77))
	saved := slices.Clone(l)
	tile := api.Tile{Z: 7}
	rings := [][]api.Point{l[:4], l[:4], nil}[:2]
	line, area := Line(tile, l[:4]), Area(tile, rings)
	if !slices.Equal(l, saved) || rings[:3][2] != nil {
		t.Error("an argument is changed")
	}
	want, wantArea := slices.Clone(line[0]), slices.Clone(area[1])
	clear(l)
	for i := range area {
		_ = append(area[i], at(5, 5))
	}
	clear(area[0])
	if !slices.Equal(line[0], want) || !slices.Equal(area[1], wantArea) {
		t.Error("a result shares memory")
	}
}
