package query

import (
	"mapmaker/api"
	"mapmaker/custom"
)

// search is what a search from a vertex upward in the hierarchy has found.
type search struct {
	reached []int       // in increasing order of rank
	cost    map[int]int // by vertex
	by      map[int]int // the edge by which a vertex other than the first was reached
}

// climb searches upward from s; back asks for the weights of the opposite directions. All upward paths remain on the chain of parents.
func climb(m *custom.Metric, s int, back bool) search {
	h := m.Hier()
	weight := m.Up
	if back {
		weight = m.Down
	}
	out := search{cost: map[int]int{s: 0}, by: map[int]int{}}
chain:
	for v := s; ; v = h.Parent(v) {
		switch _, ok := out.cost[v]; {
		case v < 0:
			break chain
		case !ok:
			continue chain
		}
		out.reached = append(out.reached, v)
		for _, e := range h.Up(v) {
			out.relax(m, v, e, weight(e))
		}
	}
	return out
}

// relax notes that edge e leads up from v. The lowest of several vertices before keeps its place, so that no path visits a vertex twice.
func (c search) relax(m *custom.Metric, v, e, weight int) {
	ends, _ := m.Hier().Edge(e)
	cost := c.cost[v] + weight
	if old, ok := c.cost[ends.To]; weight < api.Inf && (!ok || cost < old) {
		c.cost[ends.To], c.by[ends.To] = cost, e
	}
}

// edgesFrom returns the edges by which the vertex top was reached, from the last one to the first.
func (c search) edgesFrom(m *custom.Metric, top int) []int {
	var out []int
	for {
		e, ok := c.by[top]
		if !ok {
			return out
		}
		out = append(out, e)
		ends, _ := m.Hier().Edge(e)
		top = ends.From
	}
}

// step is an edge in one of its directions.
type step struct {
	edge int
	up   bool
}

func (s step) weight(m *custom.Metric) int {
	if s.up {
		return m.Up(s.edge)
	}
	return m.Down(s.edge)
}

// unpack returns the arcs of a path with the weight of the step.
func unpack(m *custom.Metric, s step) []int {
	var out []int
	rest := []step{s} // what remains, the next one last
	for len(rest) > 0 {
		next := rest[len(rest)-1]
		rest = rest[:len(rest)-1]
		if arc, ok := m.Arc(next.edge, next.up); ok {
			out = append(out, arc)
			continue
		}
		down, up := over(m, next)
		rest = append(rest, up, down)
	}
	return out
}

// over returns the steps down and up again over the lowest vertex that gives the step its weight. With the lowest one no path visits a vertex twice.
func over(m *custom.Metric, s step) (down, up step) {
	h := m.Hier()
	ends, _ := h.Edge(s.edge)
	from, to := ends.From, ends.To
	if !s.up {
		from, to = to, from
	}
	for _, x := range h.Lower(s.edge) {
		a, _ := h.Find(x, from)
		b, _ := h.Find(x, to)
		down, up = step{a, false}, step{b, true}
		if down.weight(m)+up.weight(m) == s.weight(m) {
			break
		}
	}
	return down, up
}
