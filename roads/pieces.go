package roads

import (
	"cmp"
	"slices"

	"mapmaker/api"
	"mapmaker/classify"
	"mapmaker/num"
)

// unit is the length of a grid unit.
const unit = 16

// end is a node of a road with its grid point.
type end struct {
	node int
	at   api.Point
}

// ends returns the nodes of the roads in increasing order, each once. A road has at least one piece at each of its nodes.
func ends(roads []api.Line) []end {
	var out []end
	for _, x := range roads {
		for i, node := range x.Nodes {
			out = append(out, end{node, x.Pts[i]})
		}
	}
	slices.SortFunc(out, func(a, b end) int { return cmp.Compare(a.node, b.node) })
	return slices.Compact(out)
}

// pieces returns the pieces of a road whose nodes have these vertices.
func pieces(x api.Line, vertex map[int]int) []api.Piece {
	oneway := classify.Oneway(x.Tags)
	var out []api.Piece
	for i := 1; i < len(x.Pts); i++ {
		u, v := vertex[x.Nodes[i-1]], vertex[x.Nodes[i]]
		p := api.Piece{Way: x.ID, Len: length(x.Pts[i-1], x.Pts[i]), Class: classify.Class(x.Tags)}
		if oneway != -1 {
			p.From, p.To, p.Plan = u, v, Plan(x.Tags)
			out = append(out, p)
		}
		if oneway != 1 {
			p.From, p.To, p.Plan = v, u, Plan(x.Tags)
			out = append(out, p)
		}
	}
	return out
}

// length returns the distance of two grid points in units of a piece's length.
func length(a, b api.Point) int {
	dx, dy := a.X-b.X, a.Y-b.Y
	return num.Sqrt(unit * unit * (dx*dx + dy*dy))
}
