package trace

import (
	"cmp"
	"slices"

	"mapmaker/api"
	"mapmaker/seg"
)

// direct returns the segments of the set, from A to B so that the interior is on the left.
func direct(set []api.Seg) []api.Seg {
	waiting, out := slices.Clone(set), slices.Clone(set)
	slices.SortFunc(waiting, func(s, t api.Seg) int { return cmp.Compare(low(s), low(t)) })
	slices.SortFunc(out, func(s, t api.Seg) int { return cmp.Compare(s.A.Y+s.B.Y, t.A.Y+t.B.Y) })
	var level []api.Seg // those that the ray from the middle of a segment can cross
	for i, s := range out {
		y := s.A.Y + s.B.Y // in half units
		for len(waiting) > 0 && 2*low(waiting[0]) <= y {
			level, waiting = append(level, waiting[0]), waiting[1:]
		}
		level = slices.DeleteFunc(level, func(t api.Seg) bool { return 2*max(t.A.Y, t.B.Y) <= y })
		if !leftInside(level, s) {
			out[i] = api.Seg{A: s.B, B: s.A}
		}
	}
	return out
}

func low(s api.Seg) int {
	return min(s.A.Y, s.B.Y)
}

// leaving has, for each point, the ends of the directed segments that leave it and were not visited.
type leaving map[api.Point][]api.Point

// follow returns the rings that the directed segments form.
func follow(directed []api.Seg) [][]api.Point {
	open := leaving{}
	for _, s := range directed {
		open[s.A] = append(open[s.A], s.B)
	}
	var rings [][]api.Point
	for _, s := range directed {
		if slices.Contains(open[s.A], s.B) {
			rings = append(rings, open.ring(s))
		}
	}
	return rings
}

// ring follows the directed segments from the first one until it comes back to it, and removes them. The first one is removed last, since it is the next one of the last.
func (o leaving) ring(first api.Seg) []api.Point {
	var ring []api.Point
	for s := first; ; {
		ring = append(ring, s.A)
		next := api.Seg{A: s.B, B: o.next(s)}
		o.drop(next)
		if next == first {
			return ring
		}
		s = next
	}
}

// next returns the end of the segment with which a ring continues behind s: the first one when the direction back is rotated clockwise.
func (o leaving) next(s api.Seg) api.Point {
	first := o[s.B][0]
search:
	for _, p := range o[s.B] {
		switch pLate, firstLate := late(s, p), late(s, first); {
		case pLate && !firstLate:
			continue search
		case pLate == firstLate && seg.Turn(s.B, first, p) < 0:
			continue search // clockwise of first
		}
		first = p
	}
	return first
}

// late reports whether the direction back along s must be rotated clockwise by more than a half turn to lead from the end of s to p.
func late(s api.Seg, p api.Point) bool {
	return seg.Turn(s.B, s.A, p) > 0
}

// drop removes a segment.
func (o leaving) drop(s api.Seg) {
	o[s.A] = slices.DeleteFunc(o[s.A], func(p api.Point) bool { return p == s.B })
	if len(o[s.A]) == 0 {
		delete(o, s.A)
	}
}

// divide returns the rings into which a ring is divided at the points that it contains more than once.
func divide(ring []api.Point) [][]api.Point {
	var out [][]api.Point
	var path []api.Point
	place := map[api.Point]int{} // in path
	for _, p := range ring {
		from, again := place[p]
		if !again {
			place[p] = len(path)
			path = append(path, p)
			continue
		}
		out = append(out, slices.Clone(path[from:]))
		for _, q := range path[from+1:] {
			delete(place, q)
		}
		path = path[:from+1]
	}
	return append(out, path)
}
