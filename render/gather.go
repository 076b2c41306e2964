package render

import (
	"slices"

	"mapmaker/api"
	"mapmaker/classify"
	"mapmaker/grid"
	"mapmaker/quant"
	"mapmaker/tilegrid"
)

// gather returns the features in a valid tile by theme: places, then lines, then areas.
func gather(l api.Level, t api.Tile) map[int][]api.Feature {
	out := map[int][]api.Feature{}
	add := func(theme int, f api.Feature, shape func() [][]api.Point) {
		if theme == api.NoTheme {
			return
		}
		f.Geom.Parts = shape()
		if len(f.Geom.Parts) > 0 {
			f.Tags = slices.Clone(f.Tags)
			out[theme] = append(out[theme], f)
		}
	}
	for _, x := range l.Places {
		f := api.Feature{Ref: api.Ref{Kind: api.KNode, ID: x.ID}, Tags: x.Tags, Geom: api.Geom{Kind: api.GPoint}}
		add(classify.Theme(x.Tags), f, func() [][]api.Point { return point(t, x.At) })
	}
	for _, x := range l.Lines {
		f := api.Feature{Ref: api.Ref{Kind: api.KWay, ID: x.ID}, Tags: x.Tags, Geom: api.Geom{Kind: api.GLine}}
		add(classify.Theme(x.Tags), f, func() [][]api.Point { return quant.Line(t, x.Pts) })
	}
	for _, x := range l.Areas {
		f := api.Feature{Ref: x.Ref, Tags: x.Tags, Geom: api.Geom{Kind: api.GArea}}
		add(x.Theme, f, func() [][]api.Point { return quant.Area(t, x.Rings) })
	}
	return out
}

// point returns the point in tile coordinates, if it belongs to the tile and not to a neighbour whose side it is on.
func point(t api.Tile, p api.Point) [][]api.Point {
	if of, err := tilegrid.Of(p, t.Z); err != api.OK || of != t {
		return nil
	}
	q, _ := quant.Point(t, p)
	return [][]api.Point{{q}}
}

// visit calls see for the wanted tiles of the level in t that can have features, each with the part of the level on which it depends.
func visit(l api.Level, t api.Tile, wanted func(t api.Tile) bool, see func(t api.Tile, part api.Level)) {
	if !wanted(t) {
		return
	}
	b, _ := tilegrid.Box(t)
	part := meeting(l, b)
	if len(part.Places)+len(part.Lines)+len(part.Areas) == 0 {
		return
	}
	if t.Z == l.Zoom {
		see(t, part)
		return
	}
	for _, child := range tilegrid.Children(t) {
		visit(part, child, wanted, see)
	}
}

// meeting returns the part of the level whose features meet the box.
func meeting(l api.Level, b api.Box) api.Level {
	meets := func(pts ...api.Point) bool {
		box, ok := grid.Box(pts...)
		return ok && grid.Meets(box, b)
	}
	out := api.Level{Zoom: l.Zoom}
	for _, x := range l.Places {
		if meets(x.At) {
			out.Places = append(out.Places, x)
		}
	}
	for _, x := range l.Lines {
		if meets(x.Pts...) {
			out.Lines = append(out.Lines, x)
		}
	}
	for _, x := range l.Areas {
		if slices.ContainsFunc(x.Rings, func(r []api.Point) bool { return meets(r...) }) {
			out.Areas = append(out.Areas, x)
		}
	}
	return out
}
