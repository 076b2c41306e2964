package tileset

import (
	"maps"
	"slices"

	"mapmaker/api"
	"mapmaker/level"
	"mapmaker/render"
	"mapmaker/tilegrid"
)

// set has the bytes of tiles.
type set map[api.Tile]string

func collect(l []api.Blob) set {
	s := set{}
	for _, x := range l {
		s[x.Tile] = x.Bytes
	}
	return s
}

// list returns the tiles in increasing order.
func (s set) list() []api.Blob {
	var out []api.Blob
	for _, t := range slices.SortedFunc(maps.Keys(s), order) {
		out = append(out, api.Blob{Tile: t, Bytes: s[t]})
	}
	return out
}

// renew renders the tiles again that the change affects.
func (s set) renew(p pair) {
	dirty := p.dirty()
	for _, t := range dirty {
		delete(s, t)
	}
	wanted := around(dirty)
	for _, x := range render.Blobs(p.after, func(t api.Tile) bool { return wanted[t] }) {
		s[x.Tile] = x.Bytes
	}
}

// pair has the levels of one zoom before and after a change of the dataset.
type pair struct{ before, after api.Level }

// pairs returns the pairs of all zooms.
func pairs(a, b api.Data) ([]pair, api.Errno) {
	before, err := levels(a)
	if err != api.OK {
		return nil, err
	}
	after, err := levels(b)
	if err != api.OK {
		return nil, err
	}
	var out []pair
	for zoom := range before {
		out = append(out, pair{before[zoom], after[zoom]})
	}
	return out, api.OK
}

// dirty returns, in increasing order, the tiles whose boxes meet that of a feature that changes.
func (p pair) dirty() []api.Tile {
	found := map[api.Tile]bool{}
	for _, box := range level.Changed(p.before, p.after) {
		for _, t := range tilegrid.Cover(box, p.after.Zoom) {
			found[t] = true
		}
	}
	return slices.SortedFunc(maps.Keys(found), order)
}

// around returns the tiles and all those of smaller zooms that contain one of them.
func around(l []api.Tile) map[api.Tile]bool {
	out := map[api.Tile]bool{}
	for _, t := range l {
		for ok := true; ok && !out[t]; t, ok = tilegrid.Parent(t) {
			out[t] = true
		}
	}
	return out
}

// order compares tiles.
func order(a, b api.Tile) int {
	switch {
	case a == b:
		return 0
	case tilegrid.Less(a, b):
		return -1
	}
	return 1
}
