package cache

import (
	"mapmaker/api"
	"mapmaker/wire"
)

// encode returns the record of a delta.
func encode(version int, delta []api.Blob) string {
	var out []byte // since adding to a long string copies it
	put := func(field string) { out = append(out, field...) }
	put(wire.PutInt("", version))
	put(wire.PutUint("", uint64(len(delta))))
	for _, x := range delta {
		put(wire.PutInt("", x.Tile.Z))
		put(wire.PutInt("", x.Tile.X))
		put(wire.PutInt("", x.Tile.Y))
		put(wire.PutText("", x.Bytes))
	}
	return string(out)
}

// decode returns the version and the delta of a record.
func decode(record string) (version int, delta []api.Blob, err api.Errno) {
	r := wire.Read(record)
	tile := func() (t api.Tile) {
		t.Z = r.Int()
		t.X = r.Int()
		t.Y = r.Int()
		return t
	}
	blob := func() (x api.Blob) {
		x.Tile = tile()
		x.Bytes = r.Text(r.Left())
		return x
	}
	version = r.Int()
	// Each tile has a byte at least, so that a count of more than the bytes that are left is wrong.
	for range r.Count(r.Left()) {
		if r.Err() != api.OK {
			break
		}
		delta = append(delta, blob())
	}
	if err = r.Done(); err != api.OK {
		return 0, nil, err
	}
	return version, delta, api.OK
}
