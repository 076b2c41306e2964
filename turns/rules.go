package turns

import (
	"slices"
	"strings"

	"mapmaker/api"
	"mapmaker/tags"
)

// turnOf returns the turn that a relation restricts, and true.
func turnOf(r api.Rel) (api.Turn, bool) {
	kind, _ := tags.Get(r.Tags, "type")
	restriction, _ := tags.Get(r.Tags, "restriction")
	only := strings.HasPrefix(restriction, "only_")
	if kind != "restriction" || !only && !strings.HasPrefix(restriction, "no_") {
		return api.Turn{}, false
	}
	from, hasFrom := single(r, api.KWay, "from")
	to, hasTo := single(r, api.KWay, "to")
	via, hasVia := single(r, api.KNode, "via")
	if !hasFrom || !hasTo || !hasVia {
		return api.Turn{}, false
	}
	return api.Turn{From: from, Via: via, To: to, Only: only}, true
}

// single returns the ID of the member of that kind with that role, and true if there is exactly one.
func single(r api.Rel, kind int, role string) (int, bool) {
	found := selected(r.Members, func(m api.Member) bool { return m.Ref.Kind == kind && m.Role == role })
	if len(found) != 1 {
		return 0, false
	}
	return found[0].Ref.ID, true
}

// selected returns the elements of l that are wanted.
func selected[T any](l []T, wanted func(T) bool) []T {
	var out []T
	for _, x := range l {
		if wanted(x) {
			out = append(out, x)
		}
	}
	return out
}

// rules decides which piece may follow which one in a network.
type rules struct {
	roads   api.Roads
	leaving [][]int               // by vertex: the pieces that leave it
	at      map[[2]int][]api.Turn // by the way before it and the node: the turns that are restricted
}

func rulesOf(r api.Roads, l []api.Turn) rules {
	x := rules{r, make([][]int, len(r.Nodes)), map[[2]int][]api.Turn{}}
	for i, p := range r.Pieces {
		x.leaving[p.From] = append(x.leaving[p.From], i)
	}
	for _, t := range l {
		key := [2]int{t.From, t.Via}
		x.at[key] = append(x.at[key], t)
	}
	return x
}

// allow reports whether piece b may follow piece a.
func (x rules) allow(a, b int) bool {
	p, q := x.roads.Pieces[a], x.roads.Pieces[b]
	if p.To != q.From {
		return false
	}
	back := func(c int) bool { return x.roads.Pieces[c].To == p.From && x.roads.Pieces[c].Way == p.Way }
	elsewhere := func(c int) bool { return !back(c) }
	if back(b) && slices.ContainsFunc(x.leaving[p.To], elsewhere) {
		return false
	}
	turns := x.at[[2]int{p.Way, x.roads.Nodes[p.To]}]
	only := selected(turns, func(t api.Turn) bool { return t.Only })
	enters := func(t api.Turn) bool { return t.To == q.Way }
	forbids := func(t api.Turn) bool { return !t.Only && enters(t) }
	return !slices.ContainsFunc(turns, forbids) && (len(only) == 0 || slices.ContainsFunc(only, enters))
}
