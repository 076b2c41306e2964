package tile

import (
	"math"

	"mapmaker/api"
	"mapmaker/cmds"
	"mapmaker/names"
	"mapmaker/wire"
)

// reader decodes layers; keys and values are the string tables of the current one.
type reader struct {
	*wire.Reader
	keys, values *names.Table
}

// read returns what the fields of s say, up to the first one that cannot be read.
func read(s string) []api.Layer {
	r := &reader{Reader: wire.Read(s)}
	var out []api.Layer
	r.list(func() { out = append(out, r.layer()) })
	return out
}

// list reads a count and lets get read that many entries. Each of them has a byte at least, so that a count of more than the bytes that are left is wrong.
func (r *reader) list(get func()) {
	for range r.Count(r.Left()) {
		if r.Err() != api.OK {
			return
		}
		get()
	}
}

func (r *reader) number() int {
	return r.Count(math.MaxInt)
}

func (r *reader) layer() api.Layer {
	l := api.Layer{Theme: r.number()}
	r.keys = r.table()
	r.values = r.table()
	r.list(func() { l.Features = append(l.Features, r.feature()) })
	return l
}

// table reads a string table; it is nil if a string occurs twice.
func (r *reader) table() *names.Table {
	var l []string
	r.list(func() { l = append(l, r.Text(api.MaxText)) })
	t, _ := names.Of(l)
	return t
}

func (r *reader) feature() api.Feature {
	var f api.Feature
	f.Ref.Kind = r.number()
	f.Ref.ID = r.number()
	r.list(func() {
		key, _ := r.keys.Get(r.number())
		val, _ := r.values.Get(r.number())
		f.Tags = append(f.Tags, api.Tag{Key: key, Val: val})
	})
	kind := r.number()
	var l []int
	r.list(func() { l = append(l, r.number()) })
	f.Geom, _ = cmds.Decode(kind, l)
	return f
}
