package travel

import (
	"mapmaker/alter"
	"mapmaker/api"
	"mapmaker/custom"
	"mapmaker/query"
	"mapmaker/roads"
	"mapmaker/tdep"
	"mapmaker/turns"
)

// closed is the weight of an arc that no route uses.
const closed = -1

// route is the pieces of a route with its cost or its arrival.
type route struct {
	pieces []int
	cost   int
}

// ask returns the answer to a question about two nodes, which gets their vertices in the road network.
func ask[T any](n *Net, from, to int, answer func(u, v int) (T, api.Errno)) (T, api.Errno) {
	var none T
	u, err := n.vertex(from)
	if err != api.OK {
		return none, err
	}
	v, err := n.vertex(to)
	if err != api.OK {
		return none, err
	}
	return answer(u, v)
}

// vertex returns the vertex of a node in the road network.
func (n *Net) vertex(node int) (int, api.Errno) {
	if n == nil {
		return 0, api.ErrArg
	}
	v, ok := roads.Vertex(n.roads, node)
	if !ok {
		return 0, api.ErrNone
	}
	return v, api.OK
}

// ends returns the vertices of the metric's graph at which routes between two vertices of the network begin and end.
func (n *Net) ends(u, v int) (source, target int) {
	return turns.Source(n.roads, u), turns.Target(n.roads, v)
}

// along returns the pieces of a path in the metric's graph.
func (n *Net) along(path []int) []int {
	pieces, _ := turns.Pieces(n.roads, path, n.turns)
	return pieces
}

func (n *Net) distance(u, v int) (int, api.Errno) {
	if u == v {
		return 0, api.OK
	}
	source, target := n.ends(u, v)
	cost, err := query.Dist(n.Metric, source, target)
	if err != api.OK {
		return 0, err
	}
	if cost == api.Inf {
		return 0, api.ErrPath
	}
	return cost, api.OK
}

func (n *Net) shortest(u, v int) (route, api.Errno) {
	if u == v {
		return route{}, api.OK
	}
	source, target := n.ends(u, v)
	path, cost, err := query.Path(n.Metric, source, target)
	if err != api.OK {
		return route{}, err
	}
	return route{n.along(path), cost}, api.OK
}

// departure is the time at which someone sets out.
type departure struct {
	*Net
	at int
}

func (d departure) earliest(u, v int) (route, api.Errno) {
	if d.at < 0 || d.at > api.MaxWeight {
		return route{}, api.ErrTime
	}
	if u == v {
		return route{nil, d.at}, api.OK
	}
	source, target := d.ends(u, v)
	path, arrival, err := tdep.Goal(d.Metric, turns.Plans(d.roads, d.turns), source, target, d.at)
	if err != api.OK {
		return route{}, err
	}
	return route{d.along(path), arrival}, api.OK
}

// choice is the wish for alternative routes.
type choice struct {
	*Net
	options alter.Options
}

func (c choice) routes(u, v int) ([][]int, api.Errno) {
	if u == v {
		return [][]int{nil}, api.OK
	}
	m, err := c.positive()
	if err != api.OK {
		return nil, err
	}
	source, target := c.ends(u, v)
	paths, err := alter.Routes(m, source, target, c.options)
	if err != api.OK {
		return nil, err
	}
	var out [][]int
	for _, path := range paths {
		out = append(out, c.along(path))
	}
	return out, api.OK
}

// positive returns the metric of weights that are one more, since alternatives are defined for positive ones only.
func (n *Net) positive() (*custom.Metric, api.Errno) {
	weights := n.Metric.Weights()
	for arc, w := range weights {
		if w != closed {
			weights[arc]++
		}
	}
	return custom.New(n.Hier(), weights)
}
