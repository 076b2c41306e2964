package alter

import (
	"cmp"
	"slices"

	"mapmaker/api"
)

// choice is the routes that are accepted one after the other.
type choice struct {
	pair
	options       Options
	shortest      int          // the distance
	taken         map[int]bool // the arcs of accepted paths
	before, after []int        // by vertex: how much of the paths to it and from it is taken
	routes        [][]int
}

func (c *choice) accept(path []int) {
	c.routes = append(c.routes, path)
	for _, arc := range path {
		c.taken[arc] = true
	}
	c.before, c.after = c.from.shared(c.taken), c.to.shared(c.taken)
}

// candidates returns the vertices over which the paths are not too long, those with short ones first.
func (c *choice) candidates() []int {
	var out []int
	for v := range c.from.dist {
		if cost := c.cost(v); cost < api.Inf && 100*cost <= (100+c.options.Stretch)*c.shortest {
			out = append(out, v)
		}
	}
	slices.SortStableFunc(out, func(u, v int) int { return cmp.Compare(c.cost(u), c.cost(v)) })
	return out
}

// consider accepts the path over v if it has little in common with the accepted ones and no vertex twice. An arc that it has twice counts twice, which does not matter then.
func (c *choice) consider(v int) {
	if 100*(c.before[v]+c.after[v]) > c.options.Share*c.shortest {
		return
	}
	path, _, _ := c.via(v)
	if !c.repeats(path) {
		c.accept(path)
	}
}

// repeats reports whether the path, which is not empty, has a vertex twice.
func (c *choice) repeats(path []int) bool {
	ends := c.from.ends
	seen := map[int]bool{ends[path[0]].From: true}
	for _, arc := range path {
		to := ends[arc].To
		if seen[to] {
			return true
		}
		seen[to] = true
	}
	return false
}
