package codec

import (
	"mapmaker/api"
	"mapmaker/change"
	"mapmaker/wire"
)

// writer collects the bytes of fields.
type writer struct {
	out []byte
}

func (w *writer) integer(n int) {
	w.out = append(w.out, wire.PutInt("", n)...)
}

func (w *writer) text(s string) {
	w.out = append(w.out, wire.PutText("", s)...)
}

// list appends a count and lets put append that many entries.
func (w *writer) list(n int, put func(i int)) {
	w.out = append(w.out, wire.PutUint("", uint64(n))...)
	for i := range n {
		put(i)
	}
}

func (w *writer) tags(l []api.Tag) {
	w.list(len(l), func(i int) {
		w.text(l[i].Key)
		w.text(l[i].Val)
	})
}

func (w *writer) node(n api.Node) {
	w.integer(n.ID)
	w.integer(n.At.Lon)
	w.integer(n.At.Lat)
	w.tags(n.Tags)
}

func (w *writer) way(x api.Way) {
	w.integer(x.ID)
	w.list(len(x.Nodes), func(i int) { w.integer(x.Nodes[i]) })
	w.tags(x.Tags)
}

func (w *writer) rel(r api.Rel) {
	w.integer(r.ID)
	w.list(len(r.Members), func(i int) {
		m := r.Members[i]
		w.integer(m.Ref.Kind)
		w.integer(m.Ref.ID)
		w.text(m.Role)
	})
	w.tags(r.Tags)
}

func (w *writer) data(d api.Data) {
	w.list(len(d.Nodes), func(i int) { w.node(d.Nodes[i]) })
	w.list(len(d.Ways), func(i int) { w.way(d.Ways[i]) })
	w.list(len(d.Rels), func(i int) { w.rel(d.Rels[i]) })
}

func (w *writer) change(c api.Change) {
	w.integer(c.Op)
	w.integer(c.Kind)
	switch {
	case change.Check(c) != api.OK:
	case c.Op == api.OpDelete:
		w.integer(change.Ref(c).ID)
	case c.Kind == api.KNode:
		w.node(c.Node)
	case c.Kind == api.KWay:
		w.way(c.Way)
	case c.Kind == api.KRel:
		w.rel(c.Rel)
	}
}
