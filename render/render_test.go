package render

import (
	"cmp"
	"fmt"
	"math"
	"math/rand"
	"reflect"
	"slices"
	"testing"

	"mapmaker/api"
	"mapmaker/classify"
	"mapmaker/grid"
	"mapmaker/quant"
	"mapmaker/tile"
	"mapmaker/tilegrid"
)

func at(x, y int) api.Point { return api.Point{X: x, Y: y} }

// pts returns the points whose X and Y are given in turn.
func pts(l ...int) (out []api.Point) {
	for i := 0; i < len(l); i += 2 {
		out = append(out, at(l[i], l[i+1]))
	}
	return out
}

func tag(key, val string) []api.Tag { return []api.Tag{{Key: key, Val: val}} }

var (
	water, farm, house  = tag("natural", "water"), tag("landuse", "farm"), tag("building", "yes")
	road, border, city  = tag("highway", "primary"), tag("boundary", "x"), tag("place", "city")
	plain               = tag("name", "x")
	allTags             = [][]api.Tag{plain, water, farm, house, road, border, city} // by theme
	square              = pts(10, 10, 20, 10, 20, 20, 10, 20)
	corner, next, below = api.Tile{Z: 7}, api.Tile{Z: 7, X: 1}, api.Tile{Z: 7, Y: 1}
)

func place(id, x, y int, tags []api.Tag) api.Place {
	return api.Place{ID: id, At: at(x, y), Tags: tags}
}

func line(id int, tags []api.Tag, l ...int) api.Line {
	return api.Line{ID: id, Pts: pts(l...), Nodes: make([]int, len(l)/2), Tags: tags}
}

func area(kind, id, theme int, tags []api.Tag, rings ...[]api.Point) api.Area {
	return api.Area{Ref: api.Ref{Kind: kind, ID: id}, Theme: theme, Tags: tags, Rings: rings}
}

func feature(kind, id int, tags []api.Tag, geom int, parts ...[]api.Point) api.Feature {
	return api.Feature{Ref: api.Ref{Kind: kind, ID: id}, Tags: tags, Geom: api.Geom{Kind: geom, Parts: parts}}
}

func layer(theme int, l ...api.Feature) api.Layer { return api.Layer{Theme: theme, Features: l} }

func equal(a, b []api.Layer) bool {
	return slices.EqualFunc(a, b, func(x, y api.Layer) bool {
		return x.Theme == y.Theme && slices.EqualFunc(x.Features, y.Features, func(f, g api.Feature) bool {
			return f.Ref == g.Ref && slices.Equal(f.Tags, g.Tags) && f.Geom.Kind == g.Geom.Kind && slices.EqualFunc(f.Geom.Parts, g.Geom.Parts, func(p, q []api.Point) bool { return slices.Equal(p, q) })
		})
	})
}

func TestP32_1Examples(t *testing.T) {
	for z := range api.MaxZoom + 1 {
		l := api.Level{Zoom: z, Places: []api.Place{place(5, 0, 0, city)}}
		want := []api.Layer{layer(api.Settle, feature(1, 5, city, api.GPoint, pts(0, 0)))}
		if got := Layers(l, api.Tile{Z: z}); !equal(got, want) {
			t.Errorf("zoom %d: Layers is %v, not %v", z, got, want)
		}
		if got := Tiles(l); !slices.Equal(got, []api.Tile{{Z: z}}) {
			t.Errorf("zoom %d: Tiles is %v", z, got)
		}
	}
}

func TestP32_1WrongTiles(t *testing.T) {
	l := api.Level{Zoom: 3, Places: []api.Place{place(5, 0, 0, city)}, Lines: []api.Line{line(1, road, 0, 0, 32000, 32000)}, Areas: []api.Area{area(2, 3, api.Land, farm, pts(0, 0, 32000, 0, 0, 32000))}}
	for _, x := range []struct {
		zoom int
		t    api.Tile
	}{
		{3, api.Tile{Z: 2}}, {3, api.Tile{Z: 4}}, {3, api.Tile{Z: 3, X: 8}}, {3, api.Tile{Z: 3, Y: 8}}, {3, api.Tile{Z: 3, X: -1}}, {3, api.Tile{Z: 3, Y: -1}}, {0, api.Tile{X: 1}}, {3, api.Tile{}}, {0, api.Tile{Z: 3}},
		{8, api.Tile{Z: 8}}, {-1, api.Tile{Z: -1}}, {-1, api.Tile{}}, {math.MaxInt, api.Tile{Z: math.MaxInt}}, {math.MinInt, api.Tile{Z: math.MinInt}}, {7, api.Tile{Z: 7, X: math.MaxInt, Y: math.MinInt}},
	} {
		l.Zoom = x.zoom
		if got := Layers(l, x.t); len(got) != 0 {
			t.Errorf("Layers of %v at zoom %d is %v", x.t, x.zoom, got)
		}
		if got := Bytes(l, x.t); got != "" {
			t.Errorf("Bytes of %v at zoom %d is %q", x.t, x.zoom, got)
		}
	}
	for _, zoom := range []int{-1, 8, math.MinInt, math.MaxInt} {
		l.Zoom = zoom
		if got := Tiles(l); len(got) != 0 {
			t.Errorf("Tiles of zoom %d is %v", zoom, got)
		}
	}
}

func TestP32_1Places(t *testing.T) {
	l := api.Level{Zoom: 7}
	for theme, tags := range allTags {
		l.Places = append(l.Places, place(theme+1, 10*theme, 5, tags))
	}
	var want []api.Layer
	for theme := 1; theme <= 6; theme++ {
		want = append(want, layer(theme, feature(1, theme+1, allTags[theme], api.GPoint, pts(10*theme, 5))))
	}
	if got := Layers(l, corner); !equal(got, want) {
		t.Errorf("Layers of places of all themes is %v, not %v", got, want)
	}
	// A place belongs to one tile only, also on the common side of tiles, and to none if it is not on the grid.
	for _, x := range []struct {
		p    api.Point
		tile api.Tile
		want []api.Point
	}{
		{at(255, 255), corner, pts(255, 255)}, {at(256, 0), corner, nil}, {at(0, 256), corner, nil}, {at(256, 0), next, pts(0, 0)}, {at(0, 256), below, pts(0, 0)}, {at(256, 256), next, nil}, {at(257, 3), next, pts(1, 3)},
		{at(32767, 32767), api.Tile{Z: 7, X: 127, Y: 127}, pts(255, 255)}, {at(32768, 32767), api.Tile{Z: 7, X: 127, Y: 127}, nil}, {at(-1, 5), corner, nil}, {at(math.MinInt, math.MaxInt), corner, nil},
		{at(300, 128), api.Tile{}, pts(2, 1)}, {at(-1, 5), api.Tile{}, nil}, {at(0, 32768), api.Tile{}, nil}, {at(16384, 0), api.Tile{Z: 1}, nil}, {at(16384, 0), api.Tile{Z: 1, X: 1}, pts(0, 0)},
	} {
		var want []api.Layer
		if x.want != nil {
			want = []api.Layer{layer(api.Settle, feature(1, 4, city, api.GPoint, x.want))}
		}
		if got := Layers(api.Level{Zoom: x.tile.Z, Places: []api.Place{{ID: 4, At: x.p, Tags: city}}}, x.tile); !equal(got, want) {
			t.Errorf("Layers of %v with the place %v is %v, not %v", x.tile, x.p, got, want)
		}
	}
}

func TestP32_1Lines(t *testing.T) {
	for _, x := range []struct {
		name string
		l    api.Line
		tile api.Tile
		want []api.Layer
	}{
		{"a road", line(4, road, 1, 2, 3, 4, 9, 9), corner, []api.Layer{layer(api.Road, feature(2, 4, road, api.GLine, pts(1, 2, 3, 4, 9, 9)))}},
		{"a border", line(4, border, 1, 2, 3, 4), corner, []api.Layer{layer(api.Border, feature(2, 4, border, api.GLine, pts(1, 2, 3, 4)))}},
		{"a river", line(4, water, 1, 2, 3, 4), corner, []api.Layer{layer(api.Water, feature(2, 4, water, api.GLine, pts(1, 2, 3, 4)))}},
		{"a line without theme", line(4, plain, 1, 2, 3, 4), corner, nil},
		{"a line without tags", line(4, nil, 1, 2, 3, 4), corner, nil},
		{"a road to the next tile", line(4, road, 250, 10, 260, 10), corner, []api.Layer{layer(api.Road, feature(2, 4, road, api.GLine, pts(250, 10, 256, 10)))}},
		{"a road from the previous tile", line(4, road, 250, 10, 260, 10), next, []api.Layer{layer(api.Road, feature(2, 4, road, api.GLine, pts(0, 10, 4, 10)))}},
		{"a road along the side of the tiles", line(4, road, 256, 10, 256, 20), corner, []api.Layer{layer(api.Road, feature(2, 4, road, api.GLine, pts(256, 10, 256, 20)))}},
		{"a road along the side of the next tile", line(4, road, 256, 10, 256, 20), next, []api.Layer{layer(api.Road, feature(2, 4, road, api.GLine, pts(0, 10, 0, 20)))}},
		{"a road with two parts", line(4, road, 250, 10, 260, 10, 260, 20, 250, 20), corner, []api.Layer{layer(api.Road, feature(2, 4, road, api.GLine, pts(250, 10, 256, 10), pts(256, 20, 250, 20)))}},
		{"a road elsewhere", line(4, road, 250, 10, 250, 20), next, nil},
		{"a road around the tile", line(4, road, 300, 10, 300, 300, 10, 300), corner, nil},
		{"a road that only touches the tile", line(4, road, 256, 10, 270, 10), corner, nil},
		{"a road in one position", line(4, road, 1, 1, 100, 100), api.Tile{}, nil},
		{"a road with one point", line(4, road, 1, 1), corner, nil},
		{"a road without points", line(4, road), corner, nil},
		{"a road beyond the grid", line(4, road, 1, 1, 9, 9, -1, 9), corner, nil},
		{"a road without nodes", api.Line{ID: 4, Pts: pts(1, 1, 2, 2), Tags: road}, corner, []api.Layer{layer(api.Road, feature(2, 4, road, api.GLine, pts(1, 1, 2, 2)))}},
	} {
		if got := Layers(api.Level{Zoom: x.tile.Z, Lines: []api.Line{x.l}}, x.tile); !equal(got, x.want) {
			t.Errorf("Layers of %s is %v, not %v", x.name, got, x.want)
		}
	}
}

func TestP32_1Areas(t *testing.T) {
	hole := pts(12, 12, 12, 14, 14, 14, 14, 12)
	for _, x := range []struct {
		name string
		a    api.Area
		tile api.Tile
		want []api.Layer
	}{
		{"a farm", area(2, 4, api.Land, farm, square), corner, []api.Layer{layer(api.Land, feature(2, 4, farm, api.GArea, square))}},
		{"a farm with a hole", area(3, 4, api.Land, farm, square, hole), corner, []api.Layer{layer(api.Land, feature(3, 4, farm, api.GArea, square, hole))}},
		{"a farm whose hole has no size", area(3, 4, api.Land, farm, square, hole), api.Tile{Z: 4}, []api.Layer{layer(api.Land, feature(3, 4, farm, api.GArea, pts(1, 1, 2, 1, 2, 2, 1, 2)))}},
		{"a farm without size", area(3, 4, api.Land, farm, square), api.Tile{}, nil},
		{"a farm elsewhere", area(2, 4, api.Land, farm, square), next, nil},
		{"a farm around the tile", area(2, 4, api.Land, farm, pts(0, 0, 3000, 0, 3000, 3000, 0, 3000)), next, []api.Layer{layer(api.Land, feature(2, 4, farm, api.GArea, pts(0, 0, 256, 0, 256, 256, 0, 256)))}},
		{"a ring beyond the grid, and another one", area(2, 4, api.Land, farm, pts(-1, 0, 9, 9, 9, 0), square), corner, []api.Layer{layer(api.Land, feature(2, 4, farm, api.GArea, square))}},
		{"the theme of the area", area(2, 4, api.Water, farm, square), corner, []api.Layer{layer(api.Water, feature(2, 4, farm, api.GArea, square))}},
		{"a theme without tags", area(2, 4, api.Settle, nil, square), corner, []api.Layer{layer(api.Settle, feature(2, 4, nil, api.GArea, square))}},
		{"no theme", area(2, 4, api.NoTheme, farm, square), corner, nil},
		{"the theme 7", area(2, 4, 7, farm, square), corner, nil},
		{"a negative theme", area(2, 4, math.MinInt, farm, square), corner, nil},
		{"no rings", area(2, 4, api.Land, farm), corner, nil},
		{"any reference", area(-9, math.MaxInt, api.Land, farm, square), corner, []api.Layer{layer(api.Land, feature(-9, math.MaxInt, farm, api.GArea, square))}},
	} {
		if got := Layers(api.Level{Zoom: x.tile.Z, Areas: []api.Area{x.a}}, x.tile); !equal(got, x.want) {
			t.Errorf("Layers of %s is %v, not %v", x.name, got, x.want)
		}
	}
}

func TestP32_1LinesThatAreAreas(t *testing.T) {
	way := func(x int) []api.Point { return pts(x, 1, x+9, 9) }
	for _, x := range []struct {
		name string
		l    api.Level
		want []api.Layer
	}{
		{"the same way", api.Level{Lines: []api.Line{line(4, farm, 1, 1, 10, 9)}, Areas: []api.Area{area(2, 4, api.Land, farm, square)}}, []api.Layer{layer(api.Land, feature(2, 4, farm, api.GArea, square))}},
		{"two lines of the same way", api.Level{Lines: []api.Line{line(4, farm, 1, 1, 10, 9), line(5, farm, 1, 1, 10, 9), line(4, farm, 3, 1, 12, 9)}, Areas: []api.Area{area(2, 4, api.Land, farm, square)}}, []api.Layer{layer(api.Land, feature(2, 4, farm, api.GArea, square), feature(2, 5, farm, api.GLine, way(1)))}},
		{"a relation with the same ID", api.Level{Lines: []api.Line{line(4, farm, 1, 1, 10, 9)}, Areas: []api.Area{area(3, 4, api.Land, farm, square)}}, []api.Layer{layer(api.Land, feature(2, 4, farm, api.GLine, way(1)), feature(3, 4, farm, api.GArea, square))}},
		{"another theme", api.Level{Lines: []api.Line{line(4, farm, 1, 1, 10, 9)}, Areas: []api.Area{area(2, 4, api.Water, farm, square)}}, []api.Layer{layer(api.Water, feature(2, 4, farm, api.GArea, square)), layer(api.Land, feature(2, 4, farm, api.GLine, way(1)))}},
		{"an area elsewhere", api.Level{Lines: []api.Line{line(4, farm, 1, 1, 10, 9)}, Areas: []api.Area{area(2, 4, api.Land, farm, pts(300, 0, 310, 0, 310, 10))}}, []api.Layer{layer(api.Land, feature(2, 4, farm, api.GLine, way(1)))}},
		{"a place that is an area", api.Level{Places: []api.Place{place(4, 3, 3, farm)}, Areas: []api.Area{area(1, 4, api.Land, farm, square)}}, []api.Layer{layer(api.Land, feature(1, 4, farm, api.GPoint, pts(3, 3)), feature(1, 4, farm, api.GArea, square))}},
		{"a place, a line and an area of a relation", api.Level{Places: []api.Place{place(4, 3, 3, farm)}, Lines: []api.Line{line(4, farm, 1, 1, 10, 9)}, Areas: []api.Area{area(3, 4, api.Land, farm, square)}}, []api.Layer{layer(api.Land, feature(1, 4, farm, api.GPoint, pts(3, 3)), feature(2, 4, farm, api.GLine, way(1)), feature(3, 4, farm, api.GArea, square))}},
	} {
		x.l.Zoom = 7
		if got := Layers(x.l, corner); !equal(got, x.want) {
			t.Errorf("Layers of %s is %v, not %v", x.name, got, x.want)
		}
	}
}

func TestP32_1Order(t *testing.T) {
	other := pts(30, 30, 40, 30, 40, 40)
	l := api.Level{Zoom: 7,
		Places: []api.Place{place(9, 1, 1, road), place(2, 2, 2, road), place(9, 3, 3, road)},
		Lines:  []api.Line{line(7, road, 0, 0, 1, 1), line(3, road, 0, 0, 2, 2), line(7, road, 0, 0, 3, 3), line(-7, road, 0, 0, 4, 4)},
		Areas:  []api.Area{area(3, 5, api.Road, nil, square), area(2, 8, api.Road, nil, square), area(1, 9, api.Road, nil, square), area(2, 8, api.Road, nil, other), area(0, 1, api.Road, nil, other), area(2, 1, api.Road, nil, other)},
	}
	want := []api.Layer{layer(api.Road,
		feature(0, 1, nil, api.GArea, other),
		feature(1, 2, road, api.GPoint, pts(2, 2)), feature(1, 9, road, api.GPoint, pts(1, 1)), feature(1, 9, road, api.GPoint, pts(3, 3)), feature(1, 9, nil, api.GArea, square),
		feature(2, -7, road, api.GLine, pts(0, 0, 4, 4)), feature(2, 1, nil, api.GArea, other), feature(2, 3, road, api.GLine, pts(0, 0, 2, 2)), feature(2, 7, road, api.GLine, pts(0, 0, 1, 1)), feature(2, 7, road, api.GLine, pts(0, 0, 3, 3)), feature(2, 8, nil, api.GArea, square), feature(2, 8, nil, api.GArea, other),
		feature(3, 5, nil, api.GArea, square),
	)}
	if got := Layers(l, corner); !equal(got, want) {
		t.Errorf("Layers is %v, not %v", got, want)
	}
}

func TestP32_1Cut(t *testing.T) {
	l := api.Level{Zoom: 7}
	for i := range api.MaxObject + 3 {
		l.Places = append(l.Places, place(20000-i, i%256, i/256, city))
	}
	l.Lines = []api.Line{line(1, road, 0, 0, 1, 1)}
	got := Layers(l, corner)
	if len(got) != 2 || len(got[0].Features) != 1 || len(got[1].Features) != api.MaxObject {
		t.Fatalf("there are %d layers", len(got))
	}
	// The greatest references are cut, whatever their place in the list.
	if first, last := got[1].Features[0].Ref.ID, got[1].Features[api.MaxObject-1].Ref.ID; first != 20000-api.MaxObject-2 || last != 19997 {
		t.Errorf("the features are %d to %d", first, last)
	}
	if Bytes(l, corner) == "" {
		t.Error("there are no bytes of a layer that was cut")
	}
	// Lines that are omitted do not count, and areas behind the cut do.
	l = api.Level{Zoom: 7}
	for i := range api.MaxObject - 1 {
		l.Places = append(l.Places, place(i+1, 1, 1, farm))
	}
	l.Lines = []api.Line{line(4, farm, 0, 0, 1, 1), line(3, farm, 0, 0, 1, 1)}
	l.Areas = []api.Area{area(2, 3, api.Land, farm, square), area(2, 4, api.Land, farm, square)}
	got = Layers(l, corner)
	if len(got) != 1 || len(got[0].Features) != api.MaxObject || got[0].Features[api.MaxObject-1].Geom.Kind != api.GArea || got[0].Features[api.MaxObject-1].Ref.ID != 3 {
		t.Errorf("the omitted lines count")
	}
	l.Places = append(l.Places, place(api.MaxObject, 1, 1, farm))
	if got = Layers(l, corner); len(got) != 1 || len(got[0].Features) != api.MaxObject || got[0].Features[api.MaxObject-1].Ref.Kind != api.KNode {
		t.Errorf("the places are not all there")
	}
}

func TestP32_2Bytes(t *testing.T) {
	one := api.Level{Zoom: 7, Lines: []api.Line{{ID: 7, Pts: pts(0, 0, 1, 0), Tags: road}}}
	want := "\x01\x04\x01\x07highway\x01\x07primary\x01\x02\x07\x01\x00\x00\x02\x06\x09\x00\x00\x0a\x02\x00"
	if got := Bytes(one, corner); got != want {
		t.Errorf("Bytes is %q, not %q", got, want)
	}
	if got := Bytes(one, next); got != "" {
		t.Errorf("Bytes of an empty tile is %q", got)
	}
	var long []api.Point
	for i := range 4*api.MaxPoints + 1 {
		long = append(long, at(i%2, i%3))
	}
	many := tag("highway", "primary")
	for i := range api.MaxTags {
		many = append(many, api.Tag{Key: fmt.Sprint("x", 10+i)})
	}
	for _, x := range []struct {
		name string
		l    api.Level
	}{
		{"equal places", api.Level{Places: []api.Place{place(1, 1, 1, city), place(1, 2, 2, city)}}},
		{"equal lines", api.Level{Lines: []api.Line{line(1, road, 0, 0, 1, 1), line(1, road, 0, 0, 1, 1)}}},
		{"a place and an area with a reference", api.Level{Places: []api.Place{place(1, 1, 1, farm)}, Areas: []api.Area{area(1, 1, api.Land, farm, square)}}},
		{"the ID 0", api.Level{Places: []api.Place{place(0, 1, 1, city)}}},
		{"a great ID", api.Level{Lines: []api.Line{line(api.MaxID+1, road, 0, 0, 1, 1)}}},
		{"the kind 4", api.Level{Areas: []api.Area{area(4, 1, api.Land, farm, square)}}},
		{"too many tags", api.Level{Lines: []api.Line{line(1, many, 0, 0, 1, 1)}}},
		{"unsorted tags", api.Level{Lines: []api.Line{line(1, slices.Concat(road, plain, farm), 0, 0, 1, 1)}}},
		{"too many points", api.Level{Lines: []api.Line{{ID: 1, Pts: long, Tags: road}}}},
		{"an error in one of the layers", api.Level{Lines: []api.Line{line(1, road, 0, 0, 1, 1)}, Places: []api.Place{place(-1, 1, 1, city)}}},
	} {
		x.l.Zoom = 7
		layers := Layers(x.l, corner)
		if _, err := tile.Encode(layers); err == api.OK || len(layers) == 0 {
			t.Fatalf("%s: Encode accepts %v", x.name, layers)
		}
		if got := Bytes(x.l, corner); got != "" {
			t.Errorf("Bytes of %s is %q", x.name, got)
		}
		if got := Tiles(x.l); len(got) != 0 {
			t.Errorf("Tiles of %s is %v", x.name, got)
		}
	}
	// Features that are nowhere spoil nothing.
	one.Places = []api.Place{place(0, -1, 1, city), place(0, 300, 300, city)}
	if got := Bytes(one, corner); got != want {
		t.Errorf("Bytes with features elsewhere is %q", got)
	}
	if got := Tiles(one); !slices.Equal(got, []api.Tile{corner}) {
		t.Errorf("Tiles with a wrong feature elsewhere is %v", got)
	}
}

// layers is Layers by its description: for each theme the features one after the other, each before the first one with a greater reference.
func layers(l api.Level, t api.Tile) []api.Layer {
	if tilegrid.Check(t) != api.OK || t.Z != l.Zoom {
		return nil
	}
	var out []api.Layer
	for theme := 1; theme <= 6; theme++ {
		var all []api.Feature
		put := func(f api.Feature) {
			i := 0
			for i < len(all) && cmp.Or(cmp.Compare(all[i].Ref.Kind, f.Ref.Kind), cmp.Compare(all[i].Ref.ID, f.Ref.ID)) <= 0 {
				i++
			}
			all = slices.Insert(all, i, f)
		}
		b, _ := tilegrid.Box(t)
		for _, x := range l.Places {
			if p := x.At; classify.Theme(x.Tags) == theme && grid.Valid(p) && p.X >= b.X0 && p.X < b.X1 && p.Y >= b.Y0 && p.Y < b.Y1 {
				q, _ := quant.Point(t, p)
				put(feature(1, x.ID, x.Tags, api.GPoint, []api.Point{q}))
			}
		}
		isArea := map[int]bool{}
		for _, x := range l.Areas {
			if x.Theme == theme && x.Ref.Kind == api.KWay && len(quant.Area(t, x.Rings)) > 0 {
				isArea[x.Ref.ID] = true
			}
		}
		for _, x := range l.Lines {
			if parts := quant.Line(t, x.Pts); classify.Theme(x.Tags) == theme && len(parts) > 0 && !isArea[x.ID] {
				put(feature(2, x.ID, x.Tags, api.GLine, parts...))
			}
		}
		for _, x := range l.Areas {
			if parts := quant.Area(t, x.Rings); x.Theme == theme && len(parts) > 0 {
				put(feature(x.Ref.Kind, x.Ref.ID, x.Tags, api.GArea, parts...))
			}
		}
		if len(all) > 0 {
			out = append(out, layer(theme, all...))
		}
	}
	return out
}

// randomLevel returns a level; unless it is valid, references occur more than once and some points are not on the grid.
func randomLevel(r *rand.Rand, zoom int, valid bool) api.Level {
	l := api.Level{Zoom: zoom}
	span := []int{30, 600, 5000, api.Side}[r.Intn(4)]
	x0, y0 := r.Intn(api.Side-span+1), r.Intn(api.Side-span+1)
	if r.Intn(2) == 0 {
		x0, y0 = 0, 0
	}
	point := func() api.Point {
		if !valid && r.Intn(30) == 0 {
			return at(r.Intn(3)-2, api.Side)
		}
		p := at(x0+r.Intn(span), y0+r.Intn(span))
		if size := tilegrid.Size(zoom); r.Intn(5) == 0 && p.X >= size {
			p.X -= p.X % size // on the side of two tiles
		}
		return p
	}
	some := func(least int) (out []api.Point) {
		for range least + r.Intn(4) {
			out = append(out, point())
		}
		return out
	}
	id := 0
	number := func() int {
		id++
		if valid {
			return id
		}
		return 1 + r.Intn(6)
	}
	for range r.Intn(5) {
		l.Places = append(l.Places, api.Place{ID: number(), At: point(), Tags: allTags[r.Intn(7)]})
	}
	for range r.Intn(5) {
		l.Lines = append(l.Lines, api.Line{ID: number(), Pts: some(1), Tags: allTags[r.Intn(7)]})
	}
	for range r.Intn(5) {
		var rings [][]api.Point
		for range 1 + r.Intn(2) {
			rings = append(rings, some(2))
		}
		theme := 1 + r.Intn(6)
		l.Areas = append(l.Areas, area(2+r.Intn(2), number(), theme, allTags[theme], rings...))
	}
	return l
}

// randomTile returns a tile of the zoom, most often one with a feature.
func randomTile(r *rand.Rand, l api.Level) api.Tile {
	t := api.Tile{Z: l.Zoom, X: r.Intn(1 << l.Zoom), Y: r.Intn(1 << l.Zoom)}
	if n := len(l.Lines); n > 0 && r.Intn(3) > 0 {
		p := l.Lines[r.Intn(n)].Pts
		if of, err := tilegrid.Of(p[r.Intn(len(p))], l.Zoom); err == api.OK {
			return of
		}
	}
	return t
}

func TestP32_1ByDescription(t *testing.T) {
	r := rand.New(rand.NewSource(1))
	features := 0
	for range 8000 {
		l := randomLevel(r, r.Intn(8), r.Intn(2) == 0)
		where := randomTile(r, l)
		got, want := Layers(l, where), layers(l, where)
		if !equal(got, want) {
			t.Fatalf("Layers(%v, %v) is %v, not %v", l, where, got, want)
		}
		s, _ := tile.Encode(want)
		if b := Bytes(l, where); b != s {
			t.Fatalf("Bytes(%v, %v) is %q, not %q", l, where, b, s)
		}
		for _, x := range got {
			features += len(x.Features)
		}
	}
	if features < 10000 {
		t.Errorf("there were only %d features", features)
	}
}

// allTiles is Tiles by its description, in its order.
func allTiles(l api.Level) (out []api.Tile) {
	for y := range 1 << l.Zoom {
		for x := range 1 << l.Zoom {
			if t := (api.Tile{Z: l.Zoom, X: x, Y: y}); Bytes(l, t) != "" {
				out = append(out, t)
			}
		}
	}
	return out
}

func TestP32_2Tiles(t *testing.T) {
	r := rand.New(rand.NewSource(2))
	total := 0
	for i := range 400 {
		zoom := i % 6
		if i%40 == 0 {
			zoom = 6 + i/40%2
		}
		l := randomLevel(r, zoom, r.Intn(2) == 0)
		got, want := Tiles(l), allTiles(l)
		if !slices.Equal(got, want) {
			t.Fatalf("Tiles(%v) is %v, not %v", l, got, want)
		}
		total += len(got)
	}
	if total < 5000 {
		t.Errorf("there were only %d tiles", total)
	}
	if len(Tiles(api.Level{})) != 0 {
		t.Error("an empty level has tiles")
	}
}

// Blobs has the tiles of Tiles that are wanted, with their bytes.
func TestP32_2Blobs(t *testing.T) {
	r := rand.New(rand.NewSource(5))
	total, fewer := 0, 0
	for range 300 {
		l := randomLevel(r, r.Intn(8), r.Intn(2) == 0)
		chosen := map[api.Tile]bool{}
		var want []api.Blob
		for _, x := range Tiles(l) {
			if r.Intn(3) == 0 {
				fewer++
				continue
			}
			want = append(want, api.Blob{Tile: x, Bytes: Bytes(l, x)})
			for ok := true; ok; x, ok = tilegrid.Parent(x) {
				chosen[x] = true
			}
		}
		if got := Blobs(l, func(x api.Tile) bool { return chosen[x] }); !slices.Equal(got, want) {
			t.Fatalf("Blobs(%v) of %v is %v, not %v", l, chosen, got, want)
		}
		total += len(want)
	}
	if total < 1000 || fewer < 500 {
		t.Errorf("there were only %d tiles, and %d were not wanted", total, fewer)
	}
	all := func(api.Tile) bool { return true }
	for _, zoom := range []int{-1, 8, math.MinInt, math.MaxInt} {
		if got := Blobs(api.Level{Zoom: zoom, Places: []api.Place{place(5, 0, 0, city)}}, all); len(got) != 0 {
			t.Errorf("Blobs of zoom %d is %v", zoom, got)
		}
	}
}

// An area that contains all tiles is in each of them.
func TestP32_2AllTiles(t *testing.T) {
	last := api.Side - 1
	whole := area(2, 1, api.Water, water, pts(0, 0, last, 0, last, last, 0, last))
	for z := range api.MaxZoom + 1 {
		got := Tiles(api.Level{Zoom: z, Areas: []api.Area{whole}})
		if len(got) != 1<<(2*z) || !slices.IsSortedFunc(got, func(a, b api.Tile) int { return cmp.Or(cmp.Compare(a.Y, b.Y), cmp.Compare(a.X, b.X)) }) {
			t.Errorf("zoom %d: %d tiles", z, len(got))
		}
	}
}

// near returns the level without the features whose boxes do not meet that of the tile.
func near(l api.Level, t api.Tile) api.Level {
	b, _ := tilegrid.Box(t)
	far := func(p ...api.Point) bool {
		box, ok := grid.Box(p...)
		return !ok || !grid.Meets(b, box)
	}
	l.Places = slices.DeleteFunc(slices.Clone(l.Places), func(x api.Place) bool { return far(x.At) })
	l.Lines = slices.DeleteFunc(slices.Clone(l.Lines), func(x api.Line) bool { return far(x.Pts...) })
	l.Areas = slices.DeleteFunc(slices.Clone(l.Areas), func(x api.Area) bool { return far(slices.Concat(x.Rings...)...) })
	return l
}

func TestP32_3Near(t *testing.T) {
	r := rand.New(rand.NewSource(3))
	fewer := 0
	for range 3000 {
		l := randomLevel(r, r.Intn(8), true)
		where := randomTile(r, l)
		n := near(l, where)
		if Bytes(l, where) != Bytes(n, where) || !equal(Layers(l, where), Layers(n, where)) {
			t.Fatalf("Layers(%v, %v) depends on features that are not near", l, where)
		}
		if len(n.Lines) < len(l.Lines) && len(n.Lines) > 0 {
			fewer++
		}
	}
	if fewer < 200 {
		t.Errorf("features were left out only %d times", fewer)
	}
}

func TestP32_3Decode(t *testing.T) {
	r := rand.New(rand.NewSource(4))
	full := 0
	for range 3000 {
		l := randomLevel(r, r.Intn(8), true)
		where := randomTile(r, l)
		want := Layers(l, where)
		got, err := tile.Decode(Bytes(l, where))
		if err != api.OK || !equal(got, want) {
			t.Fatalf("Bytes(%v, %v) is decoded as %v, %d, not %v", l, where, got, err, want)
		}
		if len(got) > 0 {
			full++
		}
	}
	if full < 1000 {
		t.Errorf("only %d tiles have layers", full)
	}
}

func TestP32_Aliasing(t *testing.T) {
	give := func() api.Level {
		l := api.Level{Zoom: 7, Places: []api.Place{place(1, 3, 3, slices.Clone(farm))}}
		l.Lines = []api.Line{line(4, slices.Clone(farm), 1, 1, 10, 9), line(3, slices.Clone(farm), 1, 1, 10, 9)}
		l.Areas = []api.Area{area(3, 4, api.Land, slices.Clone(farm), slices.Clone(square)), area(2, 3, api.Land, slices.Clone(farm), slices.Clone(square))}
		return l
	}
	l := give()
	got := Layers(l, corner)
	Tiles(l)
	Bytes(l, corner)
	if !reflect.DeepEqual(l, give()) {
		t.Fatalf("the level became %v", l)
	}
	want := Layers(give(), corner)
	for i, x := range got[0].Features {
		_ = append(x.Tags, api.Tag{Key: "z"})
		_ = append(x.Geom.Parts, nil)
		for _, part := range x.Geom.Parts {
			_ = append(part, at(7, 7))
		}
		if !equal(got, want) {
			t.Fatalf("the features share memory with number %d", i)
		}
	}
	for _, x := range got[0].Features {
		clear(x.Tags)
		for _, part := range x.Geom.Parts {
			clear(part)
		}
	}
	if !reflect.DeepEqual(l, give()) {
		t.Errorf("the layers share memory with the level")
	}
}
