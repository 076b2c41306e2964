package level

import (
	"slices"

	"mapmaker/api"
	"mapmaker/grid"
)

// kind tells how features of one kind are told apart and where they are.
type kind[F any] struct {
	ref    func(f F) api.Ref
	same   func(f, g F) bool
	points func(f F) []api.Point
}

func placeKind() kind[api.Place] {
	return kind[api.Place]{
		func(p api.Place) api.Ref { return api.Ref{Kind: api.KNode, ID: p.ID} },
		func(p, q api.Place) bool { return p.ID == q.ID && p.At == q.At && slices.Equal(p.Tags, q.Tags) },
		func(p api.Place) []api.Point { return []api.Point{p.At} },
	}
}

func lineKind() kind[api.Line] {
	return kind[api.Line]{
		func(x api.Line) api.Ref { return api.Ref{Kind: api.KWay, ID: x.ID} },
		func(x, y api.Line) bool {
			return x.ID == y.ID && slices.Equal(x.Pts, y.Pts) && slices.Equal(x.Nodes, y.Nodes) && slices.Equal(x.Tags, y.Tags)
		},
		func(x api.Line) []api.Point { return x.Pts },
	}
}

func areaKind() kind[api.Area] {
	return kind[api.Area]{
		func(a api.Area) api.Ref { return a.Ref },
		func(a, b api.Area) bool {
			return a.Ref == b.Ref && a.Theme == b.Theme && slices.Equal(a.Tags, b.Tags) && slices.EqualFunc(a.Rings, b.Rings, slices.Equal)
		},
		func(a api.Area) []api.Point { return slices.Concat(a.Rings...) },
	}
}

// differences returns the boxes of the features of a that are not in b, then of those of b that are not in a.
func differences[F any](a, b []F, k kind[F]) []api.Box {
	return append(k.boxes(k.missing(a, b)), k.boxes(k.missing(b, a))...)
}

// missing returns the features of l that equal none of the others.
func (k kind[F]) missing(l, others []F) []F {
	byRef := map[api.Ref][]F{}
	for _, f := range others {
		byRef[k.ref(f)] = append(byRef[k.ref(f)], f)
	}
	var out []F
	for _, f := range l {
		if !slices.ContainsFunc(byRef[k.ref(f)], func(g F) bool { return k.same(f, g) }) {
			out = append(out, f)
		}
	}
	return out
}

// boxes returns the boxes of the features that have one.
func (k kind[F]) boxes(l []F) []api.Box {
	var out []api.Box
	for _, f := range l {
		if box, ok := grid.Box(k.points(f)...); ok {
			out = append(out, box)
		}
	}
	return out
}
