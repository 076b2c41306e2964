package tile

import (
	"mapmaker/api"
	"mapmaker/cmds"
	"mapmaker/names"
	"mapmaker/wire"
)

// buffer collects the bytes of fields.
type buffer struct {
	out []byte
}

// number appends a number that is not negative.
func (b *buffer) number(n int) {
	b.out = append(b.out, wire.PutUint("", uint64(n))...)
}

func (b *buffer) text(s string) {
	b.out = append(b.out, wire.PutText("", s)...)
}

// list appends a count and lets put append that many entries.
func (b *buffer) list(n int, put func(i int)) {
	b.number(n)
	for i := range n {
		put(i)
	}
}

// writer encodes valid layers; keys and values are the string tables of the current one.
type writer struct {
	buffer
	keys, values *names.Table
}

func (w *writer) layer(l api.Layer) {
	w.keys, w.values = names.New(), names.New()
	for _, f := range l.Features {
		for _, t := range f.Tags {
			w.keys.Add(t.Key)
			w.values.Add(t.Val)
		}
	}
	w.number(l.Theme)
	w.table(w.keys)
	w.table(w.values)
	w.list(len(l.Features), func(i int) { w.feature(l.Features[i]) })
}

func (w *writer) table(t *names.Table) {
	l := t.All()
	w.list(len(l), func(i int) { w.text(l[i]) })
}

func (w *writer) feature(f api.Feature) {
	w.number(f.Ref.Kind)
	w.number(f.Ref.ID)
	w.list(len(f.Tags), func(i int) {
		w.number(w.keys.Add(f.Tags[i].Key))
		w.number(w.values.Add(f.Tags[i].Val))
	})
	w.number(f.Geom.Kind)
	l, _ := cmds.Encode(f.Geom)
	w.list(len(l), func(i int) { w.number(l[i]) })
}
