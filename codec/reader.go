package codec

import (
	"mapmaker/api"
	"mapmaker/change"
	"mapmaker/wire"
)

// reader decodes objects. Its methods panic with the first error, an api.Errno.
type reader struct {
	*wire.Reader
}

func (r reader) check() {
	stopAt(r.Err())
}

// end is called after the last field.
func (r reader) end() {
	stopAt(r.Done())
}

// stopAt panics with an error, unless there is none.
func stopAt(err api.Errno) {
	if err != api.OK {
		panic(err)
	}
}

func (r reader) integer() int {
	n := r.Int()
	r.check()
	return n
}

func (r reader) text() string {
	s := r.Text(api.MaxText)
	r.check()
	return s
}

// list reads a count of at most most and lets get read that many entries.
func (r reader) list(most int, get func()) {
	n := r.Count(most)
	r.check()
	for range n {
		get()
	}
}

func (r reader) tags() []api.Tag {
	var out []api.Tag
	r.list(api.MaxTags, func() {
		key := r.text()
		out = append(out, api.Tag{Key: key, Val: r.text()})
	})
	return out
}

func (r reader) node() api.Node {
	var n api.Node
	n.ID = r.integer()
	n.At.Lon = r.integer()
	n.At.Lat = r.integer()
	n.Tags = r.tags()
	return n
}

func (r reader) way() api.Way {
	var w api.Way
	w.ID = r.integer()
	r.list(api.MaxPoints, func() { w.Nodes = append(w.Nodes, r.integer()) })
	w.Tags = r.tags()
	return w
}

func (r reader) rel() api.Rel {
	var x api.Rel
	x.ID = r.integer()
	r.list(api.MaxMember, func() {
		var m api.Member
		m.Ref.Kind = r.integer()
		m.Ref.ID = r.integer()
		m.Role = r.text()
		x.Members = append(x.Members, m)
	})
	x.Tags = r.tags()
	return x
}

func (r reader) data() api.Data {
	var d api.Data
	r.list(api.MaxObject, func() { d.Nodes = append(d.Nodes, r.node()) })
	r.list(api.MaxObject, func() { d.Ways = append(d.Ways, r.way()) })
	r.list(api.MaxObject, func() { d.Rels = append(d.Rels, r.rel()) })
	return d
}

func (r reader) change() api.Change {
	var c api.Change
	c.Op = r.integer()
	c.Kind = r.integer()
	stopAt(change.Check(c))
	put := c.Op == api.OpPut
	switch {
	case c.Kind == api.KNode && put:
		c.Node = r.node()
	case c.Kind == api.KNode:
		c.Node.ID = r.integer()
	case c.Kind == api.KWay && put:
		c.Way = r.way()
	case c.Kind == api.KWay:
		c.Way.ID = r.integer()
	case put:
		c.Rel = r.rel()
	default:
		c.Rel.ID = r.integer()
	}
	return c
}
