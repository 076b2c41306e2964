package tileset

import (
	"cmp"
	"math"
	"math/rand"
	"reflect"
	"slices"
	"strings"
	"testing"

	"mapmaker/api"
	"mapmaker/change"
	"mapmaker/data"
	"mapmaker/grid"
	"mapmaker/level"
	"mapmaker/render"
	"mapmaker/tilegrid"
)

func blob(z, x, y int, bytes string) api.Blob {
	return api.Blob{Tile: api.Tile{Z: z, X: x, Y: y}, Bytes: bytes}
}

// tagList returns the tags whose keys and values are given in turn, in the order of the keys.
func tagList(l ...string) (out []api.Tag) {
	for i := 0; i < len(l); i += 2 {
		out = append(out, api.Tag{Key: l[i], Val: l[i+1]})
	}
	slices.SortFunc(out, func(a, b api.Tag) int { return strings.Compare(a.Key, b.Key) })
	return out
}

func node(id, x, y int, tags ...string) api.Node {
	c, _ := grid.Center(api.Point{X: x, Y: y})
	return api.Node{ID: id, At: c, Tags: tagList(tags...)}
}

// square is a dataset with the nodes of a square, 1 to 4, and a way around it.
func square(x, y, side int, tags ...string) api.Data {
	return api.Data{
		Nodes: []api.Node{node(1, x, y), node(2, x+side, y), node(3, x+side, y+side), node(4, x, y+side)},
		Ways:  []api.Way{{ID: 5, Nodes: []int{1, 2, 3, 4, 1}, Tags: tagList(tags...)}},
	}
}

// invalid returns datasets that are not valid, by the error of each.
func invalid() map[api.Errno]api.Data {
	lost := square(100, 100, 10, "landuse", "x")
	lost.Nodes = lost.Nodes[1:]
	return map[api.Errno]api.Data{
		api.ErrRef:   lost,
		api.ErrTag:   {Nodes: []api.Node{{ID: 1, Tags: tagList("", "x")}}},
		api.ErrOrder: {Nodes: []api.Node{{ID: 2}, {ID: 2}}},
		api.ErrRange: {Rels: []api.Rel{{}}},
		api.ErrLong:  {Ways: make([]api.Way, api.MaxObject+1)},
	}
}

func full(t *testing.T, d api.Data) []api.Blob {
	t.Helper()
	l, err := Full(d)
	if err != api.OK || Check(l) != api.OK {
		t.Fatalf("Full(%v) returns %v, %d", d, l, err)
	}
	return l
}

func dirty(t *testing.T, a, b api.Data) []api.Tile {
	t.Helper()
	l, err := Dirty(a, b)
	if err != api.OK {
		t.Fatalf("Dirty(%v, %v) returns %d", a, b, err)
	}
	return l
}

func update(t *testing.T, old []api.Blob, a, b api.Data) []api.Blob {
	t.Helper()
	l, err := Update(old, a, b)
	if err != api.OK {
		t.Fatalf("Update(%v, %v) returns %d", a, b, err)
	}
	return l
}

// tilesOf returns the tiles of a list.
func tilesOf(l []api.Blob) (out []api.Tile) {
	for _, x := range l {
		out = append(out, x.Tile)
	}
	return out
}

// corners returns the tiles {z 0 0} of the zooms from first to last.
func corners(first, last int) (out []api.Tile) {
	for z := first; z <= last; z++ {
		out = append(out, api.Tile{Z: z})
	}
	return out
}

// everyTile returns all tiles in increasing order.
func everyTile() (out []api.Tile) {
	for z := range api.MaxZoom + 1 {
		for y := range 1 << z {
			for x := range 1 << z {
				out = append(out, api.Tile{Z: z, X: x, Y: y})
			}
		}
	}
	return out
}

// build returns the levels of the dataset by zoom.
func build(t *testing.T, d api.Data) (out []api.Level) {
	t.Helper()
	for z := range api.MaxZoom + 1 {
		l, err := level.Build(d, z)
		if err != api.OK {
			t.Fatalf("level.Build(%v, %d) returns %d", d, z, err)
		}
		out = append(out, l)
	}
	return out
}

func TestP33_1Check(t *testing.T) {
	for _, x := range []struct {
		name string
		l    []api.Blob
		want api.Errno
	}{
		{"nothing", nil, api.OK},
		{"one tile", []api.Blob{blob(0, 0, 0, "x")}, api.OK},
		{"the last tile", []api.Blob{blob(7, 127, 127, "\x00")}, api.OK},
		{"tiles in order", []api.Blob{blob(0, 0, 0, "x"), blob(1, 1, 0, "x"), blob(1, 0, 1, "x"), blob(1, 1, 1, "x"), blob(3, 0, 0, "y")}, api.OK},
		{"a negative zoom", []api.Blob{blob(-1, 0, 0, "x")}, api.ErrTile},
		{"a large zoom", []api.Blob{blob(8, 0, 0, "x")}, api.ErrTile},
		{"a large column", []api.Blob{blob(2, 4, 0, "x")}, api.ErrTile},
		{"a large row", []api.Blob{blob(2, 0, 4, "x")}, api.ErrTile},
		{"a negative column", []api.Blob{blob(2, -1, 0, "x")}, api.ErrTile},
		{"a negative row", []api.Blob{blob(2, 0, -1, "x")}, api.ErrTile},
		{"numbers at the ends of their range", []api.Blob{blob(math.MinInt, math.MaxInt, math.MinInt, "x")}, api.ErrTile},
		{"a bad tile at last", []api.Blob{blob(1, 0, 0, "x"), blob(1, 2, 0, "x")}, api.ErrTile},
		{"a tile twice", []api.Blob{blob(1, 0, 0, "x"), blob(1, 0, 0, "y")}, api.ErrOrder},
		{"zooms in disorder", []api.Blob{blob(2, 0, 0, "x"), blob(1, 1, 1, "x")}, api.ErrOrder},
		{"rows in disorder", []api.Blob{blob(2, 0, 1, "x"), blob(2, 3, 0, "x")}, api.ErrOrder},
		{"columns in disorder", []api.Blob{blob(2, 1, 1, "x"), blob(2, 0, 1, "x")}, api.ErrOrder},
		{"disorder at last", []api.Blob{blob(2, 0, 0, "x"), blob(2, 1, 0, "x"), blob(2, 0, 0, "x")}, api.ErrOrder},
		{"no bytes", []api.Blob{blob(2, 0, 0, "")}, api.ErrEmpty},
		{"no bytes at last", []api.Blob{blob(2, 0, 0, "x"), blob(2, 1, 0, "")}, api.ErrEmpty},
		{"no bytes before a bad tile", []api.Blob{blob(2, 0, 0, ""), blob(9, 0, 0, "x")}, api.ErrEmpty},
		{"no bytes before disorder", []api.Blob{blob(2, 1, 0, ""), blob(2, 0, 0, "x")}, api.ErrEmpty},
		{"disorder before no bytes", []api.Blob{blob(2, 1, 0, "x"), blob(2, 0, 0, "x"), blob(2, 3, 0, "")}, api.ErrOrder},
		{"a bad tile in disorder without bytes", []api.Blob{blob(2, 1, 0, "x"), blob(1, 2, 0, "")}, api.ErrTile},
		{"a tile in disorder without bytes", []api.Blob{blob(2, 1, 0, "x"), blob(1, 1, 0, "")}, api.ErrOrder},
	} {
		if got := Check(x.l); got != x.want {
			t.Errorf("Check with %s is %d, not %d", x.name, got, x.want)
		}
	}
	var all []api.Blob
	for _, x := range everyTile() {
		all = append(all, api.Blob{Tile: x, Bytes: "x"})
	}
	if Check(all) != api.OK {
		t.Error("all tiles are not accepted")
	}
}

func TestP33_1Examples(t *testing.T) {
	if l := full(t, api.Data{}); len(l) != 0 {
		t.Errorf("Full of nothing is %v", l)
	}
	farm := square(100, 100, 10, "landuse", "farm")
	if got := tilesOf(full(t, farm)); !slices.Equal(got, corners(4, 7)) {
		t.Errorf("Full of the square has the tiles %v", got)
	}
	if got := dirty(t, api.Data{}, farm); !slices.Equal(got, corners(2, 7)) {
		t.Errorf("Dirty of the square is %v", got)
	}
	if got := dirty(t, farm, api.Data{}); !slices.Equal(got, corners(2, 7)) {
		t.Errorf("Dirty without the square is %v", got)
	}
}

func TestP33_1Errors(t *testing.T) {
	for want, d := range invalid() {
		if l, err := Full(d); err != want || len(l) != 0 {
			t.Errorf("Full returns %v, %d, not %d", l, err, want)
		}
	}
}

func TestP33_1ByDescription(t *testing.T) {
	r := rand.New(rand.NewSource(1))
	count := 0
	for range 6 {
		d := world(r)
		levels := build(t, d)
		var want []api.Blob
		for _, x := range everyTile() {
			if s := render.Bytes(levels[x.Z], x); s != "" {
				want = append(want, api.Blob{Tile: x, Bytes: s})
			}
		}
		if got := full(t, d); !slices.Equal(got, want) {
			t.Fatalf("Full(%v) has %d tiles, not %d", d, len(got), len(want))
		}
		count += len(want)
	}
	if count < 800 {
		t.Errorf("there are only %d tiles", count)
	}
}

func TestP33_2Errors(t *testing.T) {
	good, bad := square(100, 100, 10, "landuse", "farm"), []api.Blob{blob(1, 0, 0, "")}
	check := func(old []api.Blob, a, b api.Data, want api.Errno) {
		t.Helper()
		if l, err := Update(old, a, b); err != want || len(l) != 0 {
			t.Errorf("Update returns %v, %d, not %d", l, err, want)
		}
	}
	for first, a := range invalid() {
		for second, b := range invalid() {
			for _, x := range []struct {
				a, b api.Data
				want api.Errno
			}{{a, good, first}, {good, b, second}, {a, b, first}} {
				if l, err := Dirty(x.a, x.b); err != x.want || len(l) != 0 {
					t.Errorf("Dirty returns %v, %d, not %d", l, err, x.want)
				}
				check(nil, x.a, x.b, x.want)
				check(bad, x.a, x.b, x.want)
			}
		}
	}
	check(bad, good, good, api.ErrEmpty)
	check([]api.Blob{blob(9, 0, 0, "x")}, api.Data{}, good, api.ErrTile)
	check([]api.Blob{blob(1, 1, 0, "x"), blob(1, 0, 0, "x")}, good, api.Data{}, api.ErrOrder)
}

// A tile is dirty if a feature that changes meets its box, which includes the sides.
func TestP33_2DirtySides(t *testing.T) {
	city := func(x, y int) api.Data { return api.Data{Nodes: []api.Node{node(1, x, y, "place", "city")}} }
	tile := func(z, x, y int) api.Tile { return api.Tile{Z: z, X: x, Y: y} }
	at := func(z int, l []api.Tile) []api.Tile {
		return slices.DeleteFunc(slices.Clone(l), func(t api.Tile) bool { return t.Z != z })
	}
	for _, x := range []struct {
		x, y int
		want []api.Tile // of zoom 7
	}{
		{255, 100, []api.Tile{tile(7, 0, 0)}}, {256, 100, []api.Tile{tile(7, 0, 0), tile(7, 1, 0)}}, {257, 100, []api.Tile{tile(7, 1, 0)}}, {0, 0, []api.Tile{tile(7, 0, 0)}},
		{100, 256, []api.Tile{tile(7, 0, 0), tile(7, 0, 1)}}, {256, 256, []api.Tile{tile(7, 0, 0), tile(7, 1, 0), tile(7, 0, 1), tile(7, 1, 1)}}, {32767, 32767, []api.Tile{tile(7, 127, 127)}}, {32512, 32767, []api.Tile{tile(7, 126, 127), tile(7, 127, 127)}},
	} {
		for _, l := range [][]api.Tile{dirty(t, api.Data{}, city(x.x, x.y)), dirty(t, city(x.x, x.y), api.Data{})} {
			if got := at(7, l); !slices.Equal(got, x.want) {
				t.Errorf("the dirty tiles of the place %d %d are %v, not %v", x.x, x.y, got, x.want)
			}
			if got := at(0, l); !slices.Equal(got, []api.Tile{{}}) {
				t.Errorf("the dirty tiles of zoom 0 are %v", got)
			}
		}
		if l := dirty(t, city(x.x, x.y), city(x.x, x.y)); len(l) != 0 {
			t.Errorf("without a change %v is dirty", l)
		}
	}
	// The box of a line meets more tiles than the line.
	line := func(id int) api.Data {
		d := api.Data{Nodes: []api.Node{node(1, 10, 10), node(2, 700, 300)}}
		d.Ways = []api.Way{{ID: id, Nodes: []int{1, 2}, Tags: tagList("highway", "track")}}
		return d
	}
	want := []api.Tile{tile(7, 0, 0), tile(7, 1, 0), tile(7, 2, 0), tile(7, 0, 1), tile(7, 1, 1), tile(7, 2, 1)}
	if got := at(7, dirty(t, line(1), line(2))); !slices.Equal(got, want) {
		t.Errorf("the dirty tiles of the line are %v, not %v", got, want)
	}
	if got := dirty(t, line(1), line(2)); got[0] != (api.Tile{Z: 5}) {
		t.Errorf("the first dirty tile of a track is %v", got[0])
	}
}

// Example 2 of DOC.md: moving a node of a building changes tiles of zooms 6 and 7 only.
func TestP33_2Building(t *testing.T) {
	a, b := square(250, 250, 4, "building", "yes"), square(250, 250, 4, "building", "yes")
	b.Nodes[2] = node(3, 256, 255)
	want := []api.Tile{{Z: 6}, {Z: 7}, {Z: 7, X: 1}}
	if got := dirty(t, a, b); !slices.Equal(got, want) {
		t.Errorf("the dirty tiles are %v, not %v", got, want)
	}
	// The reaches of both boxes count, and nothing between them does.
	b = square(1000, 2000, 4, "building", "yes")
	want = []api.Tile{{Z: 6}, {Z: 6, X: 1, Y: 3}, {Z: 7}, {Z: 7, X: 3, Y: 7}}
	if got := dirty(t, a, b); !slices.Equal(got, want) {
		t.Errorf("the dirty tiles are %v, not %v", got, want)
	}
	both := square(250, 250, 4, "building", "yes")
	other := square(30000, 30000, 9, "natural", "water")
	for i := range other.Nodes {
		other.Nodes[i].ID += 10
	}
	both.Nodes = append(both.Nodes, other.Nodes...)
	both.Ways = append(both.Ways, api.Way{ID: 6, Nodes: []int{11, 12, 13, 14, 11}, Tags: other.Ways[0].Tags})
	old := full(t, both)
	moved := both
	moved.Nodes = slices.Clone(both.Nodes)
	moved.Nodes[2] = node(3, 256, 255)
	next := update(t, old, both, moved)
	if !slices.Equal(next, full(t, moved)) || slices.Equal(next, old) {
		t.Errorf("after the change the tiles are %v, before it they were %v", next, old)
	}
	for _, x := range Delta(old, next) {
		if x.Tile.Z < 6 || x.Tile.X > 1 {
			t.Errorf("the tile %v changes", x.Tile)
		}
	}
}

func TestP33_2DirtyByDescription(t *testing.T) {
	r := rand.New(rand.NewSource(2))
	none, some := 0, 0
	for range 12 {
		a := world(r)
		b := altered(r, a)
		before, after := build(t, a), build(t, b)
		var want []api.Tile
		boxes := make([][]api.Box, len(after))
		for z := range after {
			boxes[z] = level.Changed(before[z], after[z])
		}
		for _, x := range everyTile() {
			box, _ := tilegrid.Box(x)
			if slices.ContainsFunc(boxes[x.Z], func(b api.Box) bool { return grid.Meets(b, box) }) {
				want = append(want, x)
			}
		}
		got := dirty(t, a, b)
		if !slices.Equal(got, want) {
			t.Fatalf("Dirty(%v, %v) has %d tiles, not %d", a, b, len(got), len(want))
		}
		if len(want) == 0 {
			none++
		}
		some += len(want)
	}
	if none > 9 || some < 1000 {
		t.Errorf("%d times nothing was dirty, otherwise %d tiles were", none, some)
	}
}

// The given tiles need not be those of the dataset before: tiles that are not dirty remain as they are.
func TestP33_2UpdateByDescription(t *testing.T) {
	r := rand.New(rand.NewSource(3))
	all := everyTile()
	var kept, replaced, inserted, removed int
	for range 12 {
		a := world(r)
		b := altered(r, a)
		levels, affected := build(t, b), dirty(t, a, b)
		before, after := map[api.Tile]string{}, map[api.Tile]string{}
		for _, x := range all {
			if r.Intn(3) == 0 {
				before[x] = string(rune('a' + r.Intn(20)))
				after[x] = before[x]
			}
		}
		for _, x := range affected {
			s, had := render.Bytes(levels[x.Z], x), before[x] != ""
			switch {
			case s == "" && had:
				removed++
			case s != "" && had:
				replaced++
			case s != "":
				inserted++
			}
			after[x] = s
		}
		var old, want []api.Blob
		for _, x := range all {
			if before[x] != "" {
				old = append(old, api.Blob{Tile: x, Bytes: before[x]})
			}
			if after[x] != "" {
				want = append(want, api.Blob{Tile: x, Bytes: after[x]})
				if after[x] == before[x] {
					kept++
				}
			}
		}
		if got := update(t, old, a, b); !slices.Equal(got, want) {
			t.Fatalf("Update from %v to %v has %d tiles, not %d", a, b, len(got), len(want))
		}
	}
	if min(kept, replaced, inserted, removed) < 100 {
		t.Errorf("%d tiles were kept, %d replaced, %d inserted and %d removed", kept, replaced, inserted, removed)
	}
}

func TestP33_3Get(t *testing.T) {
	l := []api.Blob{blob(1, 0, 0, "a"), blob(1, 1, 0, "b"), blob(1, 0, 1, ""), blob(1, 1, 0, "c"), blob(9, -1, 5, "d"), blob(0, 0, 0, "e")}
	for _, x := range []struct {
		tile api.Tile
		want string
		ok   bool
	}{
		{api.Tile{Z: 1}, "a", true}, {api.Tile{Z: 1, X: 1}, "b", true}, {api.Tile{Z: 1, Y: 1}, "", true}, {api.Tile{Z: 9, X: -1, Y: 5}, "d", true}, {api.Tile{}, "e", true},
		{api.Tile{Z: 1, X: 1, Y: 1}, "", false}, {api.Tile{Z: 2}, "", false}, {api.Tile{Z: 9, X: 5, Y: -1}, "", false}, {api.Tile{Z: math.MinInt, X: math.MaxInt}, "", false},
	} {
		if s, ok := Get(l, x.tile); s != x.want || ok != x.ok {
			t.Errorf("Get of %v is %q, %v, not %q, %v", x.tile, s, ok, x.want, x.ok)
		}
	}
	if s, ok := Get(nil, api.Tile{}); s != "" || ok {
		t.Errorf("Get of no tiles is %q, %v", s, ok)
	}
}

func TestP33_3Delta(t *testing.T) {
	a := []api.Blob{blob(1, 0, 0, "a"), blob(1, 1, 0, "b"), blob(3, 0, 0, "z")}
	b := []api.Blob{blob(0, 0, 0, "n"), blob(1, 1, 0, "c"), blob(1, 0, 1, "d"), blob(3, 0, 0, "z")}
	for _, x := range []struct {
		name            string
		old, next, want []api.Blob
	}{
		{"two lists", a, b, []api.Blob{blob(0, 0, 0, "n"), blob(1, 0, 0, ""), blob(1, 1, 0, "c"), blob(1, 0, 1, "d")}},
		{"two lists backwards", b, a, []api.Blob{blob(0, 0, 0, ""), blob(1, 0, 0, "a"), blob(1, 1, 0, "b"), blob(1, 0, 1, "")}},
		{"equal lists", a, a, nil}, {"nothing", nil, nil, nil},
		{"no tiles before", nil, a, a},
		{"no tiles afterwards", a, nil, []api.Blob{blob(1, 0, 0, ""), blob(1, 1, 0, ""), blob(3, 0, 0, "")}},
		{"a bad list before", []api.Blob{blob(8, 0, 0, "x")}, a, nil}, {"a bad list afterwards", a, []api.Blob{blob(1, 2, 0, "x")}, nil},
		{"disorder before", []api.Blob{a[1], a[0]}, b, nil}, {"disorder afterwards", a, []api.Blob{b[2], b[1]}, nil},
		{"no bytes before", []api.Blob{blob(1, 0, 0, "")}, a, nil}, {"no bytes afterwards", nil, []api.Blob{blob(1, 0, 0, "")}, nil},
	} {
		if got := Delta(x.old, x.next); !slices.Equal(got, x.want) {
			t.Errorf("Delta of %s is %v, not %v", x.name, got, x.want)
		}
	}
}

func TestP33_3Patch(t *testing.T) {
	a := []api.Blob{blob(1, 0, 0, "a"), blob(1, 1, 0, "b"), blob(3, 0, 0, "z")}
	for _, x := range []struct {
		name             string
		old, delta, want []api.Blob
	}{
		{"all changes", a, []api.Blob{blob(0, 0, 0, "n"), blob(1, 0, 0, ""), blob(1, 1, 0, "c"), blob(1, 0, 1, "d")}, []api.Blob{blob(0, 0, 0, "n"), blob(1, 1, 0, "c"), blob(1, 0, 1, "d"), blob(3, 0, 0, "z")}},
		{"no changes", a, nil, a}, {"nothing", nil, nil, nil}, {"no tiles", nil, a, a},
		{"a tile removed that is missing", a, []api.Blob{blob(2, 0, 0, "")}, a},
		{"the same bytes", a, a[1:2], a},
		{"all removed", a, []api.Blob{blob(1, 0, 0, ""), blob(1, 1, 0, ""), blob(3, 0, 0, "")}, nil},
		{"a tile at last", a, []api.Blob{blob(7, 127, 127, "x")}, append(slices.Clone(a), blob(7, 127, 127, "x"))},
		{"bad tiles before", []api.Blob{blob(8, 0, 0, "x")}, nil, nil}, {"disorder before", []api.Blob{a[1], a[0]}, nil, nil}, {"no bytes before", []api.Blob{blob(1, 0, 0, "")}, a, nil},
		{"a bad tile", a, []api.Blob{blob(1, 2, 0, "x")}, nil}, {"a bad tile removed", a, []api.Blob{blob(0, 0, 0, "x"), blob(-1, 0, 0, "")}, nil},
		{"disorder", a, []api.Blob{blob(2, 1, 0, "x"), blob(2, 0, 0, "x")}, nil}, {"disorder of removed tiles", a, []api.Blob{blob(1, 1, 0, ""), blob(1, 0, 0, "")}, nil}, {"a tile twice", a, []api.Blob{blob(2, 0, 0, ""), blob(2, 0, 0, "x")}, nil},
	} {
		if got := Patch(x.old, x.delta); !slices.Equal(got, x.want) {
			t.Errorf("Patch with %s is %v, not %v", x.name, got, x.want)
		}
	}
}

// someTiles returns a list of some of the tiles.
func someTiles(r *rand.Rand, tiles []api.Tile, empty bool) (out []api.Blob) {
	for _, x := range tiles {
		switch {
		case r.Intn(3) == 0:
		case empty && r.Intn(3) == 0:
			out = append(out, api.Blob{Tile: x})
		default:
			out = append(out, api.Blob{Tile: x, Bytes: string(rune('a' + r.Intn(3)))})
		}
	}
	return out
}

func TestP33_3ByDescription(t *testing.T) {
	r := rand.New(rand.NewSource(4))
	get := func(l []api.Blob, x api.Tile) string {
		i := slices.IndexFunc(l, func(b api.Blob) bool { return b.Tile == x })
		if i < 0 {
			return ""
		}
		return l[i].Bytes
	}
	tiles := everyTile()[:21]
	for range 3000 {
		old, next, changes := someTiles(r, tiles, false), someTiles(r, tiles, false), someTiles(r, tiles, true)
		var delta, patched []api.Blob
		for _, x := range tiles {
			if a, b := get(old, x), get(next, x); a != b {
				delta = append(delta, api.Blob{Tile: x, Bytes: b})
			}
			s := get(old, x)
			if slices.ContainsFunc(changes, func(b api.Blob) bool { return b.Tile == x }) {
				s = get(changes, x)
			}
			if s != "" {
				patched = append(patched, api.Blob{Tile: x, Bytes: s})
			}
		}
		if got := Delta(old, next); !slices.Equal(got, delta) {
			t.Fatalf("Delta(%v, %v) is %v, not %v", old, next, got, delta)
		}
		if got := Patch(old, changes); !slices.Equal(got, patched) {
			t.Fatalf("Patch(%v, %v) is %v, not %v", old, changes, got, patched)
		}
		if got := Patch(old, delta); !slices.Equal(got, next) {
			t.Fatalf("Patch(%v, %v) is %v, not %v", old, delta, got, next)
		}
	}
}

// tagsOfWays has the tags of roads, borders and areas.
func tagsOfWays() [][]api.Tag {
	return [][]api.Tag{
		nil, tagList("highway", "motorway"), tagList("highway", "primary", "name", "x"), tagList("highway", "track"), tagList("boundary", "x"), tagList("boundary", "x", "area", "yes"),
		tagList("natural", "water"), tagList("natural", "water"), tagList("landuse", "x"), tagList("landuse", "x"), tagList("landuse", "y"), tagList("building", "x"), tagList("route", "ferry"),
	}
}

func pick[T any](r *rand.Rand, l []T) T { return l[r.Intn(len(l))] }

// somewhere returns a node on a part of the grid, often on sides of tiles.
func somewhere(r *rand.Rand, id int) api.Node {
	number := func() int {
		n := 256 * r.Intn(24)
		switch r.Intn(4) {
		case 0:
			n += r.Intn(256)
		case 1:
			n += r.Intn(5) - 2
		}
		return min(max(n, 0), api.Side-1)
	}
	out := node(id, number(), number())
	if r.Intn(60) == 0 {
		out = node(id, r.Intn(api.Side), r.Intn(api.Side))
	}
	if r.Intn(4) == 0 {
		out.Tags = tagList("place", pick(r, []string{"city", "town", "village", "hamlet"}))
	}
	return out
}

// someWay returns a way along some of the nodes, which often end where they begin.
func someWay(r *rand.Rand, id, nodes int) api.Way {
	w := api.Way{ID: id, Tags: pick(r, tagsOfWays())}
	first := 1 + r.Intn(nodes)
	for range 2 + r.Intn(4) {
		w.Nodes = append(w.Nodes, 1+(first+r.Intn(8))%nodes)
	}
	if r.Intn(2) == 0 {
		w.Nodes = append(w.Nodes, w.Nodes[0])
	}
	return w
}

func someRel(r *rand.Rand, id int, ways []api.Way) api.Rel {
	x := api.Rel{ID: id, Tags: append(slices.Clone(pick(r, [][]api.Tag{tagList("landuse", "x"), tagList("natural", "water"), tagList("building", "x")})), api.Tag{Key: "type", Val: "multipolygon"})}
	for range 1 + r.Intn(3) {
		x.Members = append(x.Members, api.Member{Ref: api.Ref{Kind: api.KWay, ID: pick(r, ways).ID}})
	}
	return x
}

// world returns a dataset with roads, borders, places and areas, some of which share nodes.
func world(r *rand.Rand) api.Data {
	var d api.Data
	nodes := 12 + r.Intn(20)
	for id := 1; id <= nodes; id++ {
		d.Nodes = append(d.Nodes, somewhere(r, id))
	}
	for id := 1; id <= 6+r.Intn(10); id++ {
		d.Ways = append(d.Ways, someWay(r, id, nodes))
	}
	for id := 1; id <= r.Intn(4); id++ {
		d.Rels = append(d.Rels, someRel(r, id, d.Ways))
	}
	return d
}

// altered returns the dataset after a change file of a few changes.
func altered(r *rand.Rand, d api.Data) api.Data {
	for {
		var l []api.Change
		for range 1 + r.Intn(3) {
			switch r.Intn(7) {
			case 0, 1:
				l = append(l, api.Change{Op: api.OpPut, Kind: api.KNode, Node: somewhere(r, pick(r, d.Nodes).ID)})
			case 2:
				n := pick(r, d.Nodes)
				n.At.Lon += r.Intn(2000000) - 1000000
				l = append(l, api.Change{Op: api.OpPut, Kind: api.KNode, Node: n})
			case 3:
				l = append(l, api.Change{Op: api.OpPut, Kind: api.KWay, Way: someWay(r, 1+r.Intn(len(d.Ways)+2), len(d.Nodes))})
			case 4:
				w := pick(r, d.Ways)
				w.Tags = pick(r, tagsOfWays())
				l = append(l, api.Change{Op: api.OpPut, Kind: api.KWay, Way: w})
			case 5:
				l = append(l, api.Change{Op: api.OpDelete, Kind: api.KWay, Way: api.Way{ID: pick(r, d.Ways).ID}})
			case 6:
				l = append(l, api.Change{Op: api.OpPut, Kind: api.KRel, Rel: someRel(r, 1+r.Intn(4), d.Ways)})
			}
		}
		if next, err := change.Apply(d, l); err == api.OK && len(next.Ways) > 0 {
			return next
		}
	}
}

// P4 of DOC.md: tiles that are updated after change files equal those of a full rebuild, and others do not change.
func TestP33_4Updates(t *testing.T) {
	r := rand.New(rand.NewSource(5))
	changed, untouched := 0, 0
	for range 20 {
		d := world(r)
		tiles := update(t, nil, api.Data{}, d)
		if !slices.Equal(tiles, full(t, d)) {
			t.Fatalf("the tiles of %v differ if they are an update of nothing", d)
		}
		for range 6 {
			next := altered(r, d)
			got, want := update(t, tiles, d, next), full(t, next)
			if !slices.Equal(got, want) {
				t.Fatalf("after the changes from %v to %v the tiles %v should be %v", d, next, Delta(want, got), Delta(got, want))
			}
			affected := map[api.Tile]bool{}
			for _, x := range dirty(t, d, next) {
				affected[x] = true
			}
			delta := Delta(tiles, got)
			for _, x := range delta {
				if !affected[x.Tile] {
					t.Fatalf("from %v to %v the tile %v changes, which is not dirty", d, next, x.Tile)
				}
			}
			if !slices.Equal(Patch(tiles, delta), got) {
				t.Fatalf("Patch of %v does not lead to the tiles of %v", delta, next)
			}
			changed += len(delta)
			untouched += len(want) - len(delta)
			d, tiles = next, got
		}
		if last := update(t, tiles, d, api.Data{}); len(last) != 0 {
			t.Fatalf("of the tiles of %v %v remain without it", d, last)
		}
	}
	if changed < 2000 || untouched < 10000 {
		t.Errorf("only %d tiles changed, and %d did not", changed, untouched)
	}
}

// A change and its inverse lead back to the same tiles.
func TestP33_4Inverse(t *testing.T) {
	r := rand.New(rand.NewSource(6))
	for range 10 {
		a := world(r)
		b := altered(r, a)
		if data.Same(a, b) {
			continue
		}
		old := full(t, a)
		if got := update(t, update(t, old, a, b), b, a); !slices.Equal(got, old) {
			t.Fatalf("between %v and %v the tiles %v do not change back", a, b, Delta(old, got))
		}
		there, back := dirty(t, a, b), dirty(t, b, a)
		if !slices.Equal(there, back) {
			t.Fatalf("from %v to %v %v is dirty, and backwards %v", a, b, there, back)
		}
	}
}

func TestP33_Aliasing(t *testing.T) {
	r := rand.New(rand.NewSource(7))
	a := world(r)
	b := altered(r, a)
	old, next := full(t, a), full(t, b)
	saved := []any{clone(a), clone(b), slices.Clone(old), slices.Clone(next)}
	spare := append(slices.Clone(old), blob(7, 1, 1, "spare"))
	results := [][]api.Blob{update(t, spare[:len(old)], a, b), Delta(spare[:len(old)], next), Patch(spare[:len(old)], nil), Patch(nil, spare[:len(old)])}
	dirty(t, a, b)
	Get(old, api.Tile{Z: 7})
	if !reflect.DeepEqual(saved, []any{a, b, old, next}) || spare[len(old)] != blob(7, 1, 1, "spare") {
		t.Fatal("an argument is changed")
	}
	fresh := [][]api.Blob{slices.Clone(results[0]), slices.Clone(results[1]), slices.Clone(results[2]), slices.Clone(results[3])}
	clear(spare)
	for i, want := range fresh {
		if !slices.Equal(results[i], want) {
			t.Errorf("the result %d shares memory with an argument", i)
		}
		_ = append(results[i], blob(0, 0, 0, "x"))
		clear(results[i])
	}
	if !slices.Equal(old, saved[2].([]api.Blob)) || !slices.Equal(next, saved[3].([]api.Blob)) {
		t.Error("an argument shares memory with a result")
	}
	if !slices.Equal(full(t, a), old) {
		t.Error("Full is not the same again")
	}
}

func clone(d api.Data) api.Data {
	out := api.Data{Nodes: slices.Clone(d.Nodes), Ways: slices.Clone(d.Ways), Rels: slices.Clone(d.Rels)}
	for i, x := range out.Nodes {
		out.Nodes[i].Tags = slices.Clone(x.Tags)
	}
	for i, x := range out.Ways {
		out.Ways[i].Nodes, out.Ways[i].Tags = slices.Clone(x.Nodes), slices.Clone(x.Tags)
	}
	for i, x := range out.Rels {
		out.Rels[i].Members, out.Rels[i].Tags = slices.Clone(x.Members), slices.Clone(x.Tags)
	}
	return out
}

// A large area is in all tiles, and an update of a part of it only concerns those where it is.
func TestP33_Large(t *testing.T) {
	d := square(0, 0, api.Side-1, "natural", "water")
	l := full(t, d)
	if len(l) != len(everyTile()) || !slices.IsSortedFunc(l, func(a, b api.Blob) int { return cmp.Compare(tilegrid.ID(a.Tile), tilegrid.ID(b.Tile)) }) {
		t.Errorf("there are %d tiles", len(l))
	}
	if got := dirty(t, api.Data{}, d); !slices.Equal(got, everyTile()) {
		t.Errorf("%d tiles are dirty", len(got))
	}
	lake := square(300, 300, 9, "natural", "water")
	if got := update(t, l, d, lake); !slices.Equal(got, full(t, lake)) {
		t.Errorf("after the flood %d tiles remain", len(got))
	}
}
