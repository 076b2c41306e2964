package mesh

import (
	"cmp"
	"slices"
	"sort"

	"mapmaker/api"
	"mapmaker/noding"
	"mapmaker/seg"
)

// bounded returns, for each segment of the set into which the segments of all areas were divided, the areas that it bounds.
func bounded(l [][]api.Seg, set []api.Seg) map[api.Seg][]int {
	from := map[api.Point][]api.Seg{}
	for _, s := range set {
		from[s.A] = append(from[s.A], s)
	}
	out := map[api.Seg][]int{}
	for area, segs := range l {
		for _, s := range noding.Unique(segs) {
			for p := s.A; p != s.B; {
				piece := along(from[p], s)
				out[piece] = append(out[piece], area)
				p = piece.B
			}
		}
	}
	return out
}

// along returns the one of the segments, which begin at a point of s, that is a part of s.
func along(l []api.Seg, s api.Seg) api.Seg {
	return l[slices.IndexFunc(l, func(t api.Seg) bool { return seg.Turn(s.A, s.B, t.B) == 0 })]
}

// sides are the areas on the sides of a segment.
type sides struct{ left, right []int }

// sidesOf returns the sides of the segments of a set without crossings, whose segments bound these areas. A line with one X sweeps over the plane: between two segments that are neighbours on it there is none, so that the areas above the lower one are those below the upper one.
func sidesOf(set []api.Seg, bounds map[api.Seg][]int) map[api.Seg]sides {
	out := map[api.Seg]sides{}
	var line []api.Seg // the segments on the line and right of it, from below
	x := -1
	for _, s := range inSweep(set) {
		if s.A.X > x {
			x = s.A.X
			line = slices.DeleteFunc(line, func(t api.Seg) bool { return t.B.X <= x })
		}
		at := sort.Search(len(line), func(i int) bool { return seg.Turn(line[i].A, line[i].B, s.A) < 0 })
		var right []int
		if at > 0 {
			right = slices.Clone(out[line[at-1]].left)
		}
		out[s] = sides{differ(right, bounds[s]), right}
		if !upright(s) {
			line = slices.Insert(line, at, s)
		}
	}
	return out
}

// inSweep returns the segments in the order in which the line meets them, from below. Upright ones come last: they have everything that begins below their middle on their right.
func inSweep(set []api.Seg) []api.Seg {
	out := slices.Clone(set)
	slices.SortFunc(out, func(a, b api.Seg) int {
		place := cmp.Or(cmp.Compare(a.A.X, b.A.X), cmp.Compare(turnOf(a), turnOf(b)), cmp.Compare(a.A.Y, b.A.Y))
		return cmp.Or(place, cmp.Compare(0, seg.Turn(a.A, a.B, b.B)))
	})
	return out
}

func upright(s api.Seg) bool {
	return s.A.X == s.B.X
}

// turnOf returns 1 for segments that are met after the others with their X, and 0 for those.
func turnOf(s api.Seg) int {
	if upright(s) {
		return 1
	}
	return 0
}
