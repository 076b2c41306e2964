package areas

import (
	"slices"

	"mapmaker/api"
	"mapmaker/noding"
	"mapmaker/seg"
)

// Planar returns the areas whose boundaries cross none of an area before with the same theme, and the faults of the others.
func Planar(l []api.Area) ([]api.Area, []api.Fault) {
	accepted := map[int][]outline{}
	var out []api.Area
	var faults []api.Fault
	for _, a := range l {
		o := outlineOf(a)
		if slices.ContainsFunc(accepted[a.Theme], o.crosses) {
			faults = append(faults, api.Fault{Ref: a.Ref, Err: api.ErrCross})
			continue
		}
		accepted[a.Theme] = append(accepted[a.Theme], o)
		out = append(out, copyArea(a))
	}
	return out, faults
}

// outline is the boundary of an area: its segments in increasing order and their box.
type outline struct {
	segs []api.Seg
	box  api.Box
}

func outlineOf(a api.Area) outline {
	var o outline
	for _, r := range a.Rings {
		if len(r) > 0 {
			o.segs = append(o.segs, noding.Of(append(slices.Clone(r), r[0]))...)
		}
	}
	o.segs = noding.Unique(o.segs)
	for i, s := range o.segs {
		if i == 0 {
			o.box = boxOf(s)
		}
		o.box = join(o.box, boxOf(s))
	}
	return o
}

// crosses reports whether a segment of one outline crosses one of the other.
func (o outline) crosses(other outline) bool {
	if !meet(o.box, other.box) {
		return false
	}
	near := other.within(o.box)
	for _, s := range o.within(other.box) {
		for _, t := range near {
			// This segment and all later ones are right of s.
			if t.A.X > s.B.X {
				break
			}
			if seg.Relate(s, t) == seg.Cross {
				return true
			}
		}
	}
	return false
}

// within returns the segments whose boxes meet b.
func (o outline) within(b api.Box) []api.Seg {
	var out []api.Seg
	for _, s := range o.segs {
		if meet(boxOf(s), b) {
			out = append(out, s)
		}
	}
	return out
}

func boxOf(s api.Seg) api.Box {
	return api.Box{X0: s.A.X, Y0: min(s.A.Y, s.B.Y), X1: s.B.X, Y1: max(s.A.Y, s.B.Y)}
}

func join(a, b api.Box) api.Box {
	return api.Box{X0: min(a.X0, b.X0), Y0: min(a.Y0, b.Y0), X1: max(a.X1, b.X1), Y1: max(a.Y1, b.Y1)}
}

func meet(a, b api.Box) bool {
	return a.X0 <= b.X1 && b.X0 <= a.X1 && a.Y0 <= b.Y1 && b.Y0 <= a.Y1
}

func copyArea(a api.Area) api.Area {
	var rings [][]api.Point
	for _, r := range a.Rings {
		rings = append(rings, slices.Clone(r))
	}
	a.Tags, a.Rings = slices.Clone(a.Tags), rings
	return a
}
