package change

import (
	"maps"
	"slices"

	"mapmaker/api"
	"mapmaker/data"
)

// objects is the objects of a dataset by their IDs, which need not be in range.
type objects struct {
	nodes map[int]api.Node
	ways  map[int]api.Way
	rels  map[int]api.Rel
}

func collect(d api.Data) objects {
	o := objects{map[int]api.Node{}, map[int]api.Way{}, map[int]api.Rel{}}
	for _, n := range d.Nodes {
		o.nodes[n.ID] = n
	}
	for _, w := range d.Ways {
		o.ways[w.ID] = w
	}
	for _, r := range d.Rels {
		o.rels[r.ID] = r
	}
	return o
}

// dataset returns the objects in the order of their IDs; it shares no memory with them.
func (o objects) dataset() api.Data {
	var d api.Data
	for _, id := range inOrder(o.nodes) {
		d.Nodes = append(d.Nodes, copyNode(o.nodes[id]))
	}
	for _, id := range inOrder(o.ways) {
		d.Ways = append(d.Ways, copyWay(o.ways[id]))
	}
	for _, id := range inOrder(o.rels) {
		d.Rels = append(d.Rels, copyRel(o.rels[id]))
	}
	return d
}

func (o objects) apply(c api.Change) api.Errno {
	if err := Check(c); err != api.OK {
		return err
	}
	if c.Op == api.OpPut {
		o.put(c)
		return api.OK
	}
	if !o.remove(Ref(c)) {
		return api.ErrNone
	}
	return api.OK
}

func (o objects) put(c api.Change) {
	switch c.Kind {
	case api.KNode:
		o.nodes[c.Node.ID] = c.Node
	case api.KWay:
		o.ways[c.Way.ID] = c.Way
	case api.KRel:
		o.rels[c.Rel.ID] = c.Rel
	}
}

// remove deletes an object and reports whether it existed.
func (o objects) remove(r api.Ref) bool {
	switch r.Kind {
	case api.KNode:
		return take(o.nodes, r.ID)
	case api.KWay:
		return take(o.ways, r.ID)
	}
	return take(o.rels, r.ID)
}

// take deletes the object with that ID and reports whether there was one.
func take[T any](m map[int]T, id int) bool {
	_, ok := m[id]
	delete(m, id)
	return ok
}

// missingIn returns the deletions of the objects that p does not have; users come before what they refer to.
func (o objects) missingIn(p objects) []api.Change {
	var out []api.Change
	for _, id := range inOrder(o.rels) {
		if _, ok := p.rels[id]; !ok {
			out = append(out, api.Change{Op: api.OpDelete, Kind: api.KRel, Rel: api.Rel{ID: id}})
		}
	}
	for _, id := range inOrder(o.ways) {
		if _, ok := p.ways[id]; !ok {
			out = append(out, api.Change{Op: api.OpDelete, Kind: api.KWay, Way: api.Way{ID: id}})
		}
	}
	for _, id := range inOrder(o.nodes) {
		if _, ok := p.nodes[id]; !ok {
			out = append(out, api.Change{Op: api.OpDelete, Kind: api.KNode, Node: api.Node{ID: id}})
		}
	}
	return out
}

// differingFrom returns the insertions of the objects that p does not have or has with other fields.
func (o objects) differingFrom(p objects) []api.Change {
	var out []api.Change
	for _, id := range inOrder(o.nodes) {
		n := o.nodes[id]
		if old, ok := p.nodes[id]; !ok || !sameNode(old, n) {
			out = append(out, api.Change{Op: api.OpPut, Kind: api.KNode, Node: copyNode(n)})
		}
	}
	for _, id := range inOrder(o.ways) {
		w := o.ways[id]
		if old, ok := p.ways[id]; !ok || !sameWay(old, w) {
			out = append(out, api.Change{Op: api.OpPut, Kind: api.KWay, Way: copyWay(w)})
		}
	}
	for _, id := range inOrder(o.rels) {
		r := o.rels[id]
		if old, ok := p.rels[id]; !ok || !sameRel(old, r) {
			out = append(out, api.Change{Op: api.OpPut, Kind: api.KRel, Rel: copyRel(r)})
		}
	}
	return out
}

// inOrder returns the IDs of the objects in increasing order.
func inOrder[T any](m map[int]T) []int {
	return slices.Sorted(maps.Keys(m))
}

func sameNode(a, b api.Node) bool {
	return data.Same(api.Data{Nodes: []api.Node{a}}, api.Data{Nodes: []api.Node{b}})
}

func sameWay(a, b api.Way) bool {
	return data.Same(api.Data{Ways: []api.Way{a}}, api.Data{Ways: []api.Way{b}})
}

func sameRel(a, b api.Rel) bool {
	return data.Same(api.Data{Rels: []api.Rel{a}}, api.Data{Rels: []api.Rel{b}})
}

func copyNode(n api.Node) api.Node {
	n.Tags = slices.Clone(n.Tags)
	return n
}

func copyWay(w api.Way) api.Way {
	w.Nodes, w.Tags = slices.Clone(w.Nodes), slices.Clone(w.Tags)
	return w
}

func copyRel(r api.Rel) api.Rel {
	r.Members, r.Tags = slices.Clone(r.Members), slices.Clone(r.Tags)
	return r
}
