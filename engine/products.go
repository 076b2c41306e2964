package engine

import (
	"cmp"

	"mapmaker/api"
	"mapmaker/areas"
	"mapmaker/geocode"
	"mapmaker/locate"
	"mapmaker/tileset"
	"mapmaker/travel"
)

// fan is the number of children of the nodes of the tree of areas.
const fan = 8

// rebuild keeps the tiles, builds the other products of the dataset d anew, and returns the first error.
func (e *Engine) rebuild(d api.Data) (err api.Errno) {
	// After an error the other products are built nevertheless, so that none of them is that of another dataset.
	product := func(build func() api.Errno) { err = cmp.Or(err, build()) }
	product(e.keep)
	product(func() (err api.Errno) {
		e.net, err = travel.New(d)
		return err
	})
	product(func() (err api.Errno) {
		e.coder, err = geocode.New(d)
		return err
	})
	// The index comes last, since its error does.
	product(func() (err api.Errno) {
		all, _ := areas.All(d)
		planar, _ := areas.Planar(all)
		e.index, err = locate.New(planar, fan)
		return err
	})
	return err
}

// keep brings the cache to the version of the store, unless it has it.
func (e *Engine) keep() api.Errno {
	if e.cache.Version() == e.store.Version() {
		return api.OK
	}
	delta := tileset.Delta(e.cache.Tiles(), e.tiles)
	put := func() api.Errno { return e.cache.Put(e.store.Version(), delta) }
	return withSpace(put, e.cache.Compact)
}

// withSpace tries an operation again after making space, if there was too little of it.
func withSpace(attempt, compact func() api.Errno) api.Errno {
	err := attempt()
	if err != api.ErrFull {
		return err
	}
	if err := compact(); err != api.OK {
		return err
	}
	return attempt()
}
