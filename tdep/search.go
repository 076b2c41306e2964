package tdep

import (
	"slices"

	"mapmaker/api"
	"mapmaker/graph"
	"mapmaker/pq"
	"mapmaker/schedule"
)

// closed is the weight of an arc that no path uses.
const closed = -1

// none stands for the last arc of the path to a vertex that has none.
const none = -1

// nowhere is the target of a search for the arrivals at all vertices.
const nowhere = -1

// search looks for earliest arrivals. No arc leads to a vertex that is nearer to the target, by the estimates, by more than the arc's weight, so that the arrival at a vertex is known when it leaves the queue.
type search struct {
	graph   api.Graph
	weights []int
	plan    []api.Schedule
	ahead   func(v int) int // a lower bound of the remaining distance, Inf if the target cannot be reached
}

// run returns, for each vertex, the earliest arrival and the last arc of a path with that arrival. Once it is known for the vertex to, other vertices may have later arrivals.
func (s *search) run(from, to, at int) (arrivals, lasts []int) {
	arrivals, lasts = slices.Repeat([]int{api.Inf}, s.graph.N), slices.Repeat([]int{none}, s.graph.N)
	queue, out := pq.New(s.graph.N), graph.Out(s.graph)
	reach := func(v, arrival, arc int) {
		if ahead := s.ahead(v); arrival < arrivals[v] && ahead < api.Inf {
			arrivals[v], lasts[v] = arrival, arc
			queue.Set(v, arrival+ahead)
		}
	}
	reach(from, at, none)
	for {
		v, _, ok := queue.Pop()
		if !ok || v == to {
			return arrivals, lasts
		}
		for _, arc := range out[v] {
			if s.weights[arc] == closed {
				continue
			}
			if enter, ok := schedule.Next(s.plan[arc], arrivals[v]); ok {
				reach(s.graph.Arcs[arc].To, enter+s.weights[arc], arc)
			}
		}
	}
}

// route returns a path between two vertices with the earliest arrival, and this arrival.
func (s *search) route(from, to, at int) ([]int, int, api.Errno) {
	arrivals, lasts := s.run(from, to, at)
	if arrivals[to] == api.Inf {
		return nil, 0, api.ErrPath
	}
	var path []int
	for arc := lasts[to]; arc != none; arc = lasts[s.graph.Arcs[arc].From] {
		path = append(path, arc)
	}
	slices.Reverse(path)
	return path, arrivals[to], api.OK
}
