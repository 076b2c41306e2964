package data

import (
	"cmp"
	"slices"

	"mapmaker/api"
	"mapmaker/tags"
)

// dataset is a dataset whose methods check one part of the object with index i of a list. The lists before that one, and the objects before that object, have no error.
type dataset api.Data

// first returns the first error that the checks report for the objects 0 to n - 1.
func (d dataset) first(n int, checks ...func(d dataset, i int) api.Errno) api.Errno {
	for i := range n {
		for _, check := range checks {
			if err := check(d, i); err != api.OK {
				return err
			}
		}
	}
	return api.OK
}

func (d dataset) nodeID(i int) api.Errno {
	previous := 0
	if i > 0 {
		previous = d.Nodes[i-1].ID
	}
	return checkID(d.Nodes[i].ID, previous)
}

func (d dataset) nodeAt(i int) api.Errno {
	at := d.Nodes[i].At
	if at.Lon < -api.MaxLon || at.Lon > api.MaxLon || at.Lat < -api.MaxLat || at.Lat > api.MaxLat {
		return api.ErrCoord
	}
	return api.OK
}

func (d dataset) nodeTags(i int) api.Errno {
	return tags.Check(d.Nodes[i].Tags)
}

func (d dataset) wayID(i int) api.Errno {
	previous := 0
	if i > 0 {
		previous = d.Ways[i-1].ID
	}
	return checkID(d.Ways[i].ID, previous)
}

func (d dataset) wayLength(i int) api.Errno {
	n := len(d.Ways[i].Nodes)
	if n < 2 {
		return api.ErrShort
	}
	if n > api.MaxPoints {
		return api.ErrLong
	}
	return api.OK
}

func (d dataset) wayNodes(i int) api.Errno {
	for _, id := range d.Ways[i].Nodes {
		if !d.hasNode(id) {
			return api.ErrRef
		}
	}
	return api.OK
}

func (d dataset) wayTags(i int) api.Errno {
	return tags.Check(d.Ways[i].Tags)
}

func (d dataset) relID(i int) api.Errno {
	previous := 0
	if i > 0 {
		previous = d.Rels[i-1].ID
	}
	return checkID(d.Rels[i].ID, previous)
}

func (d dataset) relLength(i int) api.Errno {
	members := d.Rels[i].Members
	if len(members) > api.MaxMember {
		return api.ErrLong
	}
	for _, m := range members {
		if len(m.Role) > api.MaxText {
			return api.ErrLong
		}
	}
	return api.OK
}

func (d dataset) relMembers(i int) api.Errno {
	for _, m := range d.Rels[i].Members {
		node := m.Ref.Kind == api.KNode && d.hasNode(m.Ref.ID)
		way := m.Ref.Kind == api.KWay && d.hasWay(m.Ref.ID)
		if !node && !way {
			return api.ErrRef
		}
	}
	return api.OK
}

func (d dataset) relTags(i int) api.Errno {
	return tags.Check(d.Rels[i].Tags)
}

// hasNode reports whether there is a node with that ID; the nodes are in order.
func (d dataset) hasNode(id int) bool {
	_, ok := slices.BinarySearchFunc(d.Nodes, id, func(n api.Node, id int) int { return cmp.Compare(n.ID, id) })
	return ok
}

// hasWay reports whether there is a way with that ID; the ways are in order.
func (d dataset) hasWay(id int) bool {
	_, ok := slices.BinarySearchFunc(d.Ways, id, func(w api.Way, id int) int { return cmp.Compare(w.ID, id) })
	return ok
}

func checkID(id, previous int) api.Errno {
	if id < 1 || id > api.MaxID {
		return api.ErrRange
	}
	if id <= previous {
		return api.ErrOrder
	}
	return api.OK
}
