package contract

import (
	"cmp"
	"slices"

	"mapmaker/api"
	"mapmaker/graph"
)

// eliminate returns the edges of the hierarchy in the order of their numbers.
func eliminate(g api.Graph, order, ranks []int) []api.Arc {
	up := make([][]api.Arc, g.N)
	for v, near := range graph.Neighbours(g) {
		for _, u := range near {
			if ranks[v] < ranks[u] {
				up[v] = append(up[v], api.Arc{From: v, To: u})
			}
		}
	}
	var out []api.Arc
	for _, v := range order {
		edges := tidy(up[v], ranks)
		out = append(out, edges...)
		if len(edges) == 0 {
			continue
		}
		// Only the new neighbours of the parent are noted: they are connected with each other when the parent is eliminated.
		parent := edges[0].To
		for _, e := range edges[1:] {
			up[parent] = append(up[parent], api.Arc{From: parent, To: e.To})
		}
	}
	return out
}

// tidy returns edges that lead up from one vertex in increasing order of the rank of To, each once.
func tidy(edges []api.Arc, ranks []int) []api.Arc {
	out := slices.Clone(edges)
	slices.SortFunc(out, func(a, b api.Arc) int { return cmp.Compare(ranks[a.To], ranks[b.To]) })
	return slices.Compact(out)
}
