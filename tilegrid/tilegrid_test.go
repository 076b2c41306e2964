package tilegrid

import (
	"math"
	"math/rand"
	"slices"
	"testing"

	"mapmaker/api"
	"mapmaker/grid"
)

// all returns the valid tiles in increasing order.
func all() (out []api.Tile) {
	for z := 0; z <= 7; z++ {
		for y := 0; y < 1<<z; y++ {
			for x := 0; x < 1<<z; x++ {
				out = append(out, api.Tile{Z: z, X: x, Y: y})
			}
		}
	}
	return out
}

// wrong has tiles that are not valid.
var wrong = []api.Tile{
	{Z: -1}, {Z: 8}, {Z: math.MinInt}, {Z: math.MaxInt}, {X: -1}, {X: 1}, {Y: -1}, {Y: 1}, {Z: 1, X: 2}, {Z: 1, Y: 2}, {Z: 3, X: 8}, {Z: 3, X: 7, Y: 8},
	{Z: 7, X: 128}, {Z: 7, Y: 128}, {Z: 7, X: -1}, {Z: 7, Y: -1}, {Z: 7, X: math.MaxInt}, {Z: 7, Y: math.MinInt}, {Z: -1, X: -1, Y: -1}, {Z: 63, X: 1}, {Z: 64}, {Z: 8, X: 255, Y: 255},
}

func TestP28_1Check(t *testing.T) {
	for _, x := range all() {
		if err := Check(x); err != api.OK {
			t.Fatalf("Check(%v) is %d", x, err)
		}
	}
	for _, x := range wrong {
		if err := Check(x); err != api.ErrTile {
			t.Errorf("Check(%v) is %d, not ErrTile", x, err)
		}
	}
}

func TestP28_1Size(t *testing.T) {
	for z, want := range []int{32768, 16384, 8192, 4096, 2048, 1024, 512, 256} {
		if n := Size(z); n != want {
			t.Errorf("Size(%d) is %d, not %d", z, n, want)
		}
	}
	for _, z := range []int{-1, 8, 15, 64, math.MinInt, math.MaxInt} {
		if n := Size(z); n != 0 {
			t.Errorf("Size(%d) is %d, not 0", z, n)
		}
	}
}

func TestP28_1Box(t *testing.T) {
	for _, y := range []struct {
		x    api.Tile
		want api.Box
	}{
		{api.Tile{}, api.Box{X1: 32768, Y1: 32768}},
		{api.Tile{Z: 1, X: 1}, api.Box{X0: 16384, X1: 32768, Y1: 16384}},
		{api.Tile{Z: 3, X: 5, Y: 2}, api.Box{X0: 20480, Y0: 8192, X1: 24576, Y1: 12288}},
		{api.Tile{Z: 7, X: 127, Y: 127}, api.Box{X0: 32512, Y0: 32512, X1: 32768, Y1: 32768}},
	} {
		if b, err := Box(y.x); b != y.want || err != api.OK {
			t.Errorf("Box(%v) is %v, %d, not %v", y.x, b, err, y.want)
		}
	}
	for _, x := range all() {
		b, err := Box(x)
		if err != api.OK || grid.Check(b) != api.OK || b.X1-b.X0 != 32768>>x.Z || b.Y1-b.Y0 != 32768>>x.Z {
			t.Fatalf("Box(%v) is %v, %d", x, b, err)
		}
		if next, err := Box(api.Tile{Z: x.Z, X: x.X + 1, Y: x.Y}); err == api.OK && (next.X0 != b.X1 || next.Y0 != b.Y0) {
			t.Fatalf("the boxes of %v and its neighbour are %v and %v", x, b, next)
		}
		if next, err := Box(api.Tile{Z: x.Z, X: x.X, Y: x.Y + 1}); err == api.OK && (next.Y0 != b.Y1 || next.X0 != b.X0) {
			t.Fatalf("the boxes of %v and its neighbour are %v and %v", x, b, next)
		}
	}
	for _, x := range wrong {
		if b, err := Box(x); b != (api.Box{}) || err != api.ErrTile {
			t.Errorf("Box(%v) is %v, %d", x, b, err)
		}
	}
}

func TestP28_1Of(t *testing.T) {
	for _, y := range []struct {
		p    api.Point
		z    int
		want api.Tile
		err  api.Errno
	}{
		{api.Point{X: 32767, Y: 32767}, 0, api.Tile{}, api.OK},
		{api.Point{X: 16383, Y: 16384}, 1, api.Tile{Z: 1, Y: 1}, api.OK},
		{api.Point{X: 32767, Y: 256}, 7, api.Tile{Z: 7, X: 127, Y: 1}, api.OK},
		{api.Point{X: 255, Y: 512}, 7, api.Tile{Z: 7, Y: 2}, api.OK},
		{api.Point{X: 5, Y: 5}, -1, api.Tile{}, api.ErrRange},
		{api.Point{X: 5, Y: 5}, 8, api.Tile{}, api.ErrRange},
		{api.Point{X: 5, Y: 5}, math.MinInt, api.Tile{}, api.ErrRange},
		{api.Point{X: 5, Y: 5}, math.MaxInt, api.Tile{}, api.ErrRange},
		{api.Point{X: -1, Y: 5}, 3, api.Tile{}, api.ErrCoord},
		{api.Point{X: 5, Y: 32768}, 3, api.Tile{}, api.ErrCoord},
		{api.Point{X: math.MaxInt, Y: 5}, 3, api.Tile{}, api.ErrCoord},
		{api.Point{X: -1, Y: 5}, 8, api.Tile{}, api.ErrCoord},
		{api.Point{X: 5, Y: 32768}, -1, api.Tile{}, api.ErrCoord},
	} {
		if x, err := Of(y.p, y.z); x != y.want || err != y.err {
			t.Errorf("Of(%v, %d) is %v, %d, not %v, %d", y.p, y.z, x, err, y.want, y.err)
		}
	}
}

func TestP28_2Parent(t *testing.T) {
	for _, x := range all() {
		p, ok := Parent(x)
		if x.Z == 0 {
			if p != (api.Tile{}) || ok {
				t.Errorf("Parent(%v) is %v, %v", x, p, ok)
			}
			continue
		}
		inner, _ := Box(x)
		outer, err := Box(p)
		if !ok || p.Z != x.Z-1 || err != api.OK || grid.Join(inner, outer) != outer {
			t.Fatalf("Parent(%v) is %v, %v", x, p, ok)
		}
	}
	if p, ok := Parent(api.Tile{Z: 3, X: 5, Y: 2}); p != (api.Tile{Z: 2, X: 2, Y: 1}) || !ok {
		t.Errorf("Parent of {3 5 2} is %v, %v", p, ok)
	}
	for _, x := range wrong {
		if p, ok := Parent(x); p != (api.Tile{}) || ok {
			t.Errorf("Parent(%v) is %v, %v", x, p, ok)
		}
	}
}

func TestP28_2Children(t *testing.T) {
	tiles := all()
	children := map[api.Tile][]api.Tile{}
	for _, x := range tiles {
		p := api.Tile{Z: x.Z - 1, X: x.X >> 1, Y: x.Y >> 1}
		children[p] = append(children[p], x)
	}
	for _, x := range tiles {
		l := Children(x)
		if !slices.Equal(l, children[x]) {
			t.Fatalf("Children(%v) is %v, not %v", x, l, children[x])
		}
		if x.Z == 7 && l != nil {
			t.Fatalf("Children(%v) is not nil", x)
		}
	}
	for _, x := range wrong {
		if l := Children(x); l != nil {
			t.Errorf("Children(%v) is %v", x, l)
		}
	}
}

func TestP28_2Less(t *testing.T) {
	numbers := []int{math.MinInt, -1, 0, 1, math.MaxInt}
	var tiles []api.Tile
	for _, z := range numbers {
		for _, y := range numbers {
			for _, x := range numbers {
				tiles = append(tiles, api.Tile{Z: z, X: x, Y: y})
			}
		}
	}
	// The loops list the tiles in increasing order.
	for i, a := range tiles {
		for j, b := range tiles {
			if Less(a, b) != (i < j) {
				t.Fatalf("Less(%v, %v) is %v", a, b, !(i < j))
			}
		}
	}
}

// cover returns the tiles of zoom z, of all, whose boxes meet b.
func cover(tiles []api.Tile, b api.Box, z int) (out []api.Tile) {
	for _, x := range tiles {
		if x.Z != z {
			continue
		}
		size := 32768 >> z
		if x.X*size <= b.X1 && b.X0 <= (x.X+1)*size && x.Y*size <= b.Y1 && b.Y0 <= (x.Y+1)*size {
			out = append(out, x)
		}
	}
	return out
}

func TestP28_2Cover(t *testing.T) {
	if l := Cover(api.Box{X0: 16384, X1: 16384}, 1); !slices.Equal(l, []api.Tile{{Z: 1}, {Z: 1, X: 1}}) {
		t.Errorf("Cover of the example is %v", l)
	}
	tiles := all()
	r := rand.New(rand.NewSource(1))
	one := func() int {
		switch r.Intn(4) {
		case 0:
			return r.Intn(129) * 256
		case 1:
			return min(32768, max(0, r.Intn(129)*256+r.Intn(3)-1))
		case 2:
			return r.Intn(3) * 16384
		}
		return r.Intn(32769)
	}
	for range 400 {
		x0, y0 := one(), one()
		x1, y1 := max(x0, one()), max(y0, one())
		if r.Intn(2) == 0 {
			x1, y1 = min(32768, x0+r.Intn(3)*256), min(32768, y0+r.Intn(600))
		}
		b := api.Box{X0: x0, Y0: y0, X1: x1, Y1: y1}
		for z := 0; z <= 7; z++ {
			if l, want := Cover(b, z), cover(tiles, b, z); !slices.Equal(l, want) {
				t.Fatalf("Cover(%v, %d) has %d tiles, not %d", b, z, len(l), len(want))
			}
		}
	}
}

func TestP28_2CoverInvalid(t *testing.T) {
	good := api.Box{X0: 1, Y0: 2, X1: 300, Y1: 400}
	for _, z := range []int{-1, 8, 64, math.MinInt, math.MaxInt} {
		if l := Cover(good, z); l != nil {
			t.Errorf("Cover at zoom %d is %v", z, l)
		}
	}
	for _, b := range []api.Box{{X0: -1, X1: 5, Y1: 5}, {Y0: -1, X1: 5, Y1: 5}, {X1: 32769, Y1: 5}, {X1: 5, Y1: 32769}, {X0: 6, X1: 5, Y1: 5}, {Y0: 6, X1: 5, Y1: 5}, {X0: math.MinInt, X1: math.MaxInt, Y1: 1}, {X0: math.MaxInt, X1: math.MinInt}} {
		for z := -1; z <= 8; z++ {
			if l := Cover(b, z); l != nil {
				t.Errorf("Cover(%v, %d) has %d tiles", b, z, len(l))
			}
		}
	}
}

func TestP28_3ID(t *testing.T) {
	if a, b := ID(api.Tile{Z: 1}), ID(api.Tile{Z: 2}); a != 1 || b != 5 {
		t.Errorf("the IDs of the examples are %d and %d, not 1 and 5", a, b)
	}
	for i, x := range all() {
		if id := ID(x); id != i {
			t.Fatalf("ID(%v) is %d, not %d", x, id, i)
		}
		if y, ok := Tile(i); y != x || !ok {
			t.Fatalf("Tile(%d) is %v, %v, not %v", i, y, ok, x)
		}
	}
	for _, x := range wrong {
		if id := ID(x); id != -1 {
			t.Errorf("ID(%v) is %d, not -1", x, id)
		}
	}
	for _, id := range []int{-1, -2, 21845, 21846, math.MinInt, math.MaxInt} {
		if x, ok := Tile(id); x != (api.Tile{}) || ok {
			t.Errorf("Tile(%d) is %v, %v", id, x, ok)
		}
	}
}

func TestP28_4Children(t *testing.T) {
	for _, x := range all() {
		if x.Z == 7 {
			continue
		}
		want, _ := Box(x)
		join, area := api.Box{}, 0
		for i, c := range Children(x) {
			if p, ok := Parent(c); p != x || !ok {
				t.Fatalf("the parent of %v is %v, not %v", c, p, x)
			}
			b, _ := Box(c)
			if i == 0 {
				join = b
			}
			join = grid.Join(join, b)
			area += (b.X1 - b.X0) * (b.Y1 - b.Y0)
		}
		if join != want || area != (want.X1-want.X0)*(want.Y1-want.Y0) {
			t.Fatalf("the children of %v cover %v, %d", x, join, area)
		}
	}
}

func TestP28_4Cover(t *testing.T) {
	r := rand.New(rand.NewSource(2))
	for range 5000 {
		p := api.Point{X: r.Intn(32768), Y: r.Intn(32768)}
		if r.Intn(2) == 0 {
			p = api.Point{X: p.X / 256 * 256, Y: p.Y / 256 * 256}
		}
		b := api.Box{X0: max(0, p.X-r.Intn(500)), Y0: max(0, p.Y-r.Intn(500)), X1: p.X + r.Intn(2), Y1: p.Y + r.Intn(2)}
		for z := 0; z <= 7; z++ {
			x, err := Of(p, z)
			if err != api.OK || Check(x) != api.OK || !slices.Contains(Cover(b, z), x) {
				t.Fatalf("Of(%v, %d) is %v, %d, and the cover of %v is %v", p, z, x, err, b, Cover(b, z))
			}
			if outer, _ := Box(x); !grid.Holds(outer, p) {
				t.Fatalf("%v is not in the box of %v", p, x)
			}
		}
	}
}
