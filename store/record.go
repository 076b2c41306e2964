package store

import (
	"math"
	"slices"

	"mapmaker/api"
	"mapmaker/change"
	"mapmaker/codec"
	"mapmaker/data"
	"mapmaker/wire"
)

// putSnapshot returns the record of a dataset at a version.
func putSnapshot(version int, d api.Data) string {
	return wire.PutInt("", version) + codec.PutData(d)
}

// replay brings an empty store to the state that the records describe.
func (s *Store) replay(records []string) api.Errno {
	decode := s.readSnapshot
	apply := func(record string) api.Errno {
		err := decode(record)
		decode = s.readChanges // all records but the first one
		return err
	}
	for _, record := range records {
		if err := apply(record); err != api.OK {
			return err
		}
	}
	return api.OK
}

// readSnapshot sets the state to that of a snapshot.
func (s *Store) readSnapshot(record string) api.Errno {
	r := wire.Read(record)
	version := r.Int()
	if err := r.Err(); err != api.OK {
		return err
	}
	if version < 0 {
		return api.ErrForm
	}
	d, err := codec.GetData(record[len(record)-r.Left():])
	if err != api.OK {
		return err
	}
	s.base, s.version, s.data = version, version, d
	return data.Check(d)
}

// readChanges brings the state to the next version by a change file.
func (s *Store) readChanges(record string) api.Errno {
	l, err := codec.GetChanges(record)
	if err != api.OK {
		return err
	}
	if s.version == math.MaxInt {
		return api.ErrForm // no store has a further version
	}
	s.version++
	s.data, err = change.Apply(s.data, l)
	return err
}

// copyData returns a dataset that shares no memory with d.
func copyData(d api.Data) api.Data {
	out := api.Data{Nodes: slices.Clone(d.Nodes), Ways: slices.Clone(d.Ways), Rels: slices.Clone(d.Rels)}
	for i, x := range out.Nodes {
		out.Nodes[i].Tags = slices.Clone(x.Tags)
	}
	for i, x := range out.Ways {
		out.Ways[i].Nodes, out.Ways[i].Tags = slices.Clone(x.Nodes), slices.Clone(x.Tags)
	}
	for i, x := range out.Rels {
		out.Rels[i].Members, out.Rels[i].Tags = slices.Clone(x.Members), slices.Clone(x.Tags)
	}
	return out
}
