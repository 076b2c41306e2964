package custom

import (
	"mapmaker/api"
	"mapmaker/contract"
)

// shapeOf returns what the metrics of the hierarchy of g share.
func shapeOf(h *contract.Hier, g api.Graph) *shape {
	s := &shape{hier: h, ends: g.Arcs, edges: h.Edges()}
	for v := range g.N {
		s.ups = append(s.ups, h.Up(v))
	}
	s.arcs = make([][]int, len(s.edges))
	for arc, ends := range s.ends {
		if e, ok := h.Find(ends.From, ends.To); ok {
			s.arcs[e] = append(s.arcs[e], arc)
		}
	}
	return s
}

// direct returns the smallest weights of the arcs in both directions of edge e.
func (m *Metric) direct(e int) (up, down int) {
	up, down = api.Inf, api.Inf
	for _, arc := range m.arcs[e] {
		switch w := m.weights[arc]; {
		case w == closed:
		case m.ends[arc].From == m.edges[e].From:
			up = min(up, w)
		default:
			down = min(down, w)
		}
	}
	return up, down
}

// pass makes the edges between the ends of the edges that lead up from x at most as long as the ways over x. The weights of the latter are final if x comes after all lower vertices.
func (m *Metric) pass(x int) {
	for i, a := range m.ups[x] {
		above := m.ups[m.edges[a].To]
		for _, b := range m.ups[x][i+1:] {
			// There is an edge between both ends, and all lists are in the order of their upper ends.
			for m.edges[above[0]].To != m.edges[b].To {
				above = above[1:]
			}
			e := above[0]
			up, down := m.over(a, b)
			m.up[e], m.down[e] = min(m.up[e], up), min(m.down[e], down)
		}
	}
}

// over returns the weights of the ways, in both directions, between the ends of the edges a and b that lead up from one vertex. A sum with Inf is not less than Inf.
func (m *Metric) over(a, b int) (up, down int) {
	return m.down[a] + m.up[b], m.down[b] + m.up[a]
}

// weigh returns the weights of both directions of edge e, from the weights of the edges below it.
func (m *Metric) weigh(e int) (up, down int) {
	up, down = m.direct(e)
	ends := m.edges[e]
	shorten := func(x int) {
		a, _ := m.hier.Find(x, ends.From)
		b, _ := m.hier.Find(x, ends.To)
		there, back := m.over(a, b)
		up, down = min(up, there), min(down, back)
	}
	for _, x := range m.hier.Lower(e) {
		shorten(x)
	}
	return up, down
}

// update gives the arcs these weights and weighs the edges again that depend on them. It returns the number of edges that changed.
func (m *Metric) update(arcs, weights []int) int {
	touched := make([]bool, len(m.edges))
	for i, arc := range arcs {
		m.weights[arc] = weights[i]
		if e, ok := m.hier.Find(m.ends[arc].From, m.ends[arc].To); ok {
			touched[e] = true
		}
	}
	changed := 0
	// An edge comes after those below it, on which it depends.
	for e := range m.edges {
		if !touched[e] {
			continue
		}
		up, down := m.weigh(e)
		if up == m.up[e] && down == m.down[e] {
			continue
		}
		m.touchAbove(e, up, down, touched)
		m.up[e], m.down[e] = up, down
		changed++
	}
	return changed
}

// touchAbove marks the edges whose weights can change when those of edge e become up and down: a way over e becomes shorter than they are, or no longer is as short.
func (m *Metric) touchAbove(e, up, down int, touched []bool) {
	ends := m.edges[e]
	for _, b := range m.ups[ends.From] {
		above, ok := m.hier.Find(ends.To, m.edges[b].To)
		if !ok {
			continue // b is e
		}
		there, back := m.up[above], m.down[above] // from the To of e to that of b
		if m.edges[above].From != ends.To {
			there, back = back, there
		}
		wasThere, wasBack := m.over(e, b)
		isThere, isBack := down+m.up[b], m.down[b]+up
		touched[above] = touched[above] || affects(there, wasThere, isThere) || affects(back, wasBack, isBack)
	}
}

// affects reports whether the smallest of some ways, one of which changes, can become another one.
func affects(least, was, is int) bool {
	return is < least || was == least && is > was
}
