package engine

import (
	"fmt"
	"reflect"
	"slices"
	"testing"

	"mapmaker/api"
	"mapmaker/areas"
	"mapmaker/cache"
	"mapmaker/codec"
	"mapmaker/data"
	"mapmaker/device"
	"mapmaker/geocode"
	"mapmaker/journal"
	"mapmaker/locate"
	"mapmaker/store"
	"mapmaker/tilegrid"
	"mapmaker/tileset"
	"mapmaker/travel"
	"mapmaker/wire"
)

// site is two devices.
type site struct{ a, b *device.Device }

func devices(a, b int) site { return site{device.New(a), device.New(b)} }

// after returns devices with the state after so many writes.
func (s site) after(a, b int) site { return site{s.a.After(a), s.b.After(b)} }

// now returns devices with the present state, without limits.
func (s site) now() site { return s.after(s.a.Writes(), s.b.Writes()) }

func (s site) writes() [2]int { return [2]int{s.a.Writes(), s.b.Writes()} }

// limit permits so many further writes of one of the devices.
func (s site) limit(side, writes int) {
	[...]*device.Device{s.a, s.b}[side].Limit(writes)
}

// blocks returns the bytes of both devices.
func (s site) blocks() (out []string) {
	for _, d := range []*device.Device{s.a, s.b} {
		for i := range d.Blocks() {
			x, _ := d.Read(i)
			out = append(out, x)
		}
	}
	return out
}

func (s site) open(t *testing.T) *Engine {
	t.Helper()
	e, err := Open(s.a, s.b)
	if e == nil || err != api.OK {
		t.Fatalf("Open returns %v, %d", e, err)
	}
	return e
}

// formatted returns formatted devices of so many blocks, and the engine.
func formatted(t *testing.T, a, b int, first api.Data) (site, *Engine) {
	t.Helper()
	s := devices(a, b)
	if err := Format(s.a, s.b, first); err != api.OK {
		t.Fatalf("Format returns %d", err)
	}
	return s, s.open(t)
}

func commit(t *testing.T, e *Engine, l ...api.Change) int {
	t.Helper()
	n, err := e.Commit(l)
	if err != api.OK {
		t.Fatalf("Commit(%v) returns %d, %d", l, n, err)
	}
	return n
}

func journalOf(t *testing.T, d *device.Device) *journal.Journal {
	t.Helper()
	j, err := journal.Open(d)
	if err != api.OK {
		t.Fatalf("journal.Open returns %d", err)
	}
	return j
}

func cacheOf(t *testing.T, d *device.Device) *cache.Cache {
	t.Helper()
	c, err := cache.Open(d)
	if err != api.OK {
		t.Fatalf("cache.Open returns %d", err)
	}
	return c
}

// record is the record of a delta in the cache.
func record(version int, l []api.Blob) string {
	out := wire.PutUint(wire.PutInt("", version), uint64(len(l)))
	for _, x := range l {
		out = wire.PutText(wire.PutInt(wire.PutInt(wire.PutInt(out, x.Tile.Z), x.Tile.X), x.Tile.Y), x.Bytes)
	}
	return out
}

// town returns the change of a town, which changes five tiles.
func town(name string) api.Change { return put(node(1, 100, 100, "name", name, "place", "town")) }

// crowded is a dataset with more objects than a small device has space for.
func crowded() (d api.Data) {
	for id := 1; id <= 200; id++ {
		d.Nodes = append(d.Nodes, node(id, 100, 100, "place", "city"))
	}
	return d
}

func TestP58_1Format(t *testing.T) {
	for _, first := range []api.Data{{}, village()} {
		s := devices(300, 300)
		// Used devices are formatted like new ones.
		for range 2 {
			if err := Format(s.a, s.b, first); err != api.OK {
				t.Fatalf("Format returns %d", err)
			}
			x, err := store.Open(s.a)
			if err != api.OK || x.Version() != 0 || !data.Same(x.Data(), first) {
				t.Fatalf("after Format store.Open returns %d", err)
			}
			if c := cacheOf(t, s.b); c.Version() != -1 || len(c.Tiles()) != 0 {
				t.Fatalf("after Format the cache has version %d", c.Version())
			}
			e := s.open(t)
			check(t, e, 0, first)
			commit(t, e, put(node(1, 3, 3, "place", "city")))
		}
	}
}

func TestP58_1FormatErrors(t *testing.T) {
	lost := village()
	lost.Nodes = lost.Nodes[1:]
	for _, x := range []struct {
		name  string
		s     site
		first api.Data
		want  api.Errno
	}{
		{"no devices", site{}, api.Data{}, api.ErrArg}, {"no devices and bad data", site{}, lost, api.ErrRef},
		{"no device a", site{nil, device.New(9)}, api.Data{}, api.ErrArg}, {"no device b", site{device.New(9), nil}, api.Data{}, api.ErrArg},
		{"a small device a", devices(4, 9), api.Data{}, api.ErrShort}, {"a small device b", devices(9, 4), api.Data{}, api.ErrShort},
		{"a small device a and no b", site{device.New(4), nil}, api.Data{}, api.ErrShort}, {"no device a and a small b", site{nil, device.New(4)}, api.Data{}, api.ErrArg},
		{"bad data", devices(9, 9), lost, api.ErrRef}, {"bad data and a small device a", devices(4, 9), lost, api.ErrRef}, {"bad data and a small device b", devices(9, 4), lost, api.ErrRef},
		{"a full device a", devices(9, 9), village(), api.ErrFull}, {"a full device a and no b", site{device.New(9), nil}, village(), api.ErrFull}, {"a full device a and a small b", devices(9, 1), village(), api.ErrFull},
		{"the smallest devices", devices(5, 5), api.Data{}, api.OK}, {"a cache that will be too small", devices(99, 5), village(), api.OK},
	} {
		if err := Format(x.s.a, x.s.b, x.first); err != x.want {
			t.Errorf("Format with %s returns %d, not %d", x.name, err, x.want)
		} else if err != api.OK && x.s.writes() != [2]int{} {
			t.Errorf("Format with %s writes", x.name)
		}
	}
}

// A Format that fails leaves an engine as it is.
func TestP58_1FailedFormat(t *testing.T) {
	small := device.New(4)
	s, e := formatted(t, 99, 99, village())
	commit(t, e, town("Ash"))
	before := s.now().blocks()
	for _, x := range []struct {
		s     site
		first api.Data
	}{{s, crowded()}, {s, api.Data{Nodes: make([]api.Node, 1)}}, {site{s.a, nil}, api.Data{}}, {site{s.a, small}, api.Data{}}, {site{nil, s.b}, api.Data{}}, {site{small, s.b}, api.Data{}}} {
		if err := Format(x.s.a, x.s.b, x.first); err == api.OK || !slices.Equal(s.blocks(), before) {
			t.Errorf("Format returns %d", err)
		}
	}
	check(t, e, 1, mustApply(t, village(), town("Ash")))
	check(t, s.open(t), 1, mustApply(t, village(), town("Ash")))
}

// Whenever an engine can be opened after a crash of a Format, it is the old one or the new one.
func TestP58_1FormatCrashes(t *testing.T) {
	next := api.Data{Nodes: []api.Node{node(1, 7, 7, "place", "city", "name", "Elm")}}
	for _, commits := range []int{0, 1, 5} {
		s, e := formatted(t, 99, 99, village())
		for range commits {
			commit(t, e, town("Ash"))
		}
		if err := e.Compact(); err != api.OK {
			t.Fatalf("Compact returns %d", err)
		}
		before := map[bool]string{true: required(t, e.Version(), e.Data()), false: required(t, 0, next)}
		old := s.writes()
		if err := Format(s.a, s.b, next); err != api.OK {
			t.Fatalf("Format returns %d", err)
		}
		opened := 0
		for limited := range 2 {
			for k := range 9 {
				x := s.after(old[0], old[1])
				x.limit(limited, k)
				err := Format(x.a, x.b, next)
				if err != api.OK && err != api.ErrFull {
					t.Fatalf("Format with %d writes returns %d", k, err)
				}
				x = x.now()
				e, opening := Open(x.a, x.b)
				if err == api.OK && opening != api.OK {
					t.Fatalf("after Format Open returns %d", opening)
				}
				if opening == api.OK {
					opened++
					if got := answers(t, e); got != before[true] && got != before[false] || err == api.OK && got != before[false] {
						t.Fatalf("after a crash of Format the engine answers %.300q", got)
					}
				}
			}
		}
		if opened < 12 {
			t.Errorf("only %d engines could be opened", opened)
		}
	}
}

// with returns a device whose journal has these records.
func with(t *testing.T, l ...string) *device.Device {
	t.Helper()
	d := device.New(500)
	if err := journal.Format(d); err != api.OK {
		t.Fatal(err)
	}
	j := journalOf(t, d)
	for _, x := range l {
		if err := j.Append(x); err != api.OK {
			t.Fatal(err)
		}
	}
	return d
}

func TestP58_1OpenErrors(t *testing.T) {
	snapshot := func(version int) string { return wire.PutInt("", version) + codec.PutData(village()) }
	good, bad, small := with(t, snapshot(3)), with(t, "\x80"), device.New(4)
	for _, x := range []struct {
		name string
		a, b *device.Device
		want api.Errno
	}{
		{"no devices", nil, nil, api.ErrArg}, {"no device a", nil, with(t), api.ErrArg}, {"no device b", good, nil, api.ErrArg},
		{"a small device a", small, with(t), api.ErrShort}, {"a small device b", good, small, api.ErrShort},
		{"a device a without a journal", device.New(9), with(t), api.ErrForm}, {"a device b without a journal", good, device.New(9), api.ErrForm},
		{"an empty store", with(t), with(t), api.ErrEmpty}, {"a bad store", bad, with(t), api.ErrForm}, {"a bad cache", good, bad, api.ErrForm},
		{"an empty store and a bad cache", with(t), bad, api.ErrEmpty}, {"an empty store and no device b", with(t), nil, api.ErrEmpty}, {"a bad store and a small device b", bad, small, api.ErrForm},
		{"a cache of a later version", good, with(t, record(4, nil)), api.ErrVersion}, {"a cache of a much later version", good, with(t, record(1, nil), record(1<<62, nil)), api.ErrVersion},
		{"the devices exchanged", with(t), good, api.ErrEmpty}, {"twice the same device", good, good, api.ErrForm},
		{"an empty cache", good, with(t), api.OK}, {"a cache of an earlier version", good, with(t, record(0, nil), record(2, nil)), api.OK}, {"a cache of the same version", good, with(t, record(3, full(t, village()))), api.OK},
	} {
		before := site{x.a, x.b}.writes()
		e, err := Open(x.a, x.b)
		if err != x.want || (e != nil) != (err == api.OK) {
			t.Errorf("Open of %s returns %v, %d, not %d", x.name, e, err, x.want)
		} else if err == api.OK {
			check(t, e, 3, village())
		} else if before != (site{x.a, x.b}).writes() {
			t.Errorf("Open of %s writes", x.name)
		}
	}
}

func TestP58_1Lag(t *testing.T) {
	s, e := formatted(t, 500, 500, village())
	if e.Lag() != 1 {
		t.Errorf("after Format Lag is %d", e.Lag())
	}
	states := []site{s.now()}
	for i := range 5 {
		commit(t, e, town(fmt.Sprint("Ash ", i)))
		states = append(states, s.now())
		if e.Lag() != 1 {
			t.Errorf("after a commit Lag is %d", e.Lag())
		}
	}
	if e := s.open(t); e.Lag() != 0 {
		t.Errorf("of an open engine Lag is %d", e.Lag())
	}
	for version := range states {
		for behind := range version + 1 {
			x := site{states[version].a, states[version-behind].b}.now()
			e := x.open(t)
			if e.Lag() != behind {
				t.Errorf("with a cache that is %d versions behind Lag is %d", behind, e.Lag())
			}
			commit(t, e)
			if again := x.open(t); e.Lag() != behind || again.Lag() != 0 || again.Version() != version+1 {
				t.Errorf("after a commit Lag is %d, and then %d", e.Lag(), again.Lag())
			}
		}
		x := site{states[version].a, with(t)}
		if e := x.open(t); e.Lag() != version+1 {
			t.Errorf("with an empty cache Lag is %d", e.Lag())
		}
	}
}

// Opening appends a record to a cache that is behind, and nothing else.
func TestP58_1OpenRecords(t *testing.T) {
	s, e := formatted(t, 500, 500, village())
	records := []string{record(0, full(t, village()))}
	if got := journalOf(t, s.b).Records(); !slices.Equal(got, records) {
		t.Fatalf("after the first Open the records are %q", got)
	}
	old := s.now()
	commit(t, e, town("Ash"))
	commit(t, e, put(way(5, nil, 1, 2)), drop(api.KWay, 3))
	last := e.Data()
	for _, x := range []struct {
		b    *device.Device
		want []string
	}{
		{old.b, append(slices.Clone(records), record(2, tileset.Delta(full(t, village()), full(t, last))))},
		{with(t), []string{record(2, full(t, last))}},
		{with(t, record(0, []api.Blob{{Tile: api.Tile{Z: 3}, Bytes: "x"}})), []string{record(0, []api.Blob{{Tile: api.Tile{Z: 3}, Bytes: "x"}}), record(2, tileset.Delta([]api.Blob{{Tile: api.Tile{Z: 3}, Bytes: "x"}}, full(t, last)))}},
		{s.b, journalOf(t, s.b).Records()},
	} {
		y := site{s.a, x.b}
		for range 2 {
			writes := s.a.Writes()
			check(t, y.open(t), 2, last)
			if got := journalOf(t, y.b).Records(); !slices.Equal(got, x.want) || s.a.Writes() != writes {
				t.Fatalf("after Open the records are %q, not %q", got, x.want)
			}
		}
	}
	// Without tiles there is an empty record.
	s, _ = formatted(t, 9, 9, api.Data{})
	if got := journalOf(t, s.b).Records(); !slices.Equal(got, []string{record(0, nil)}) {
		t.Errorf("without tiles the records are %q", got)
	}
}

// Opening compacts a cache without space for the missing tiles.
func TestP58_1OpenMakesSpace(t *testing.T) {
	compacted := 0
	for i := range 20 {
		s, e := formatted(t, 500, 40, only(village(), 1))
		for range i {
			commit(t, e, town(fmt.Sprint("Ash ", e.Version())))
		}
		want := mustApply(t, e.Data(), town("Oak"))
		lacks := journalOf(t, s.b).Space() < len(record(e.Version()+1, tileset.Delta(e.Tiles(), full(t, want))))
		epoch := journalOf(t, s.b).Epoch()
		behind := s.now()
		commit(t, e, town("Oak"))
		behind = site{s.a, behind.b}.now()
		x := behind.open(t)
		check(t, x, i+1, want)
		check(t, behind.open(t), i+1, want)
		if j := journalOf(t, behind.b); x.Lag() != 1 || (j.Epoch() != epoch) != lacks {
			t.Errorf("Open with Lag %d leads from epoch %d to %d", x.Lag(), epoch, j.Epoch())
		}
		if lacks {
			compacted++
		}
	}
	if compacted < 3 || compacted > 17 {
		t.Errorf("%d of 20 caches were compacted", compacted)
	}
}

func TestP58_1OpenFull(t *testing.T) {
	s := devices(500, 9)
	if err := Format(s.a, s.b, village()); err != api.OK {
		t.Fatalf("Format returns %d", err)
	}
	for range 2 {
		if e, err := Open(s.a, s.b); e != nil || err != api.ErrFull {
			t.Errorf("Open with a small cache returns %v, %d", e, err)
		}
	}
	// The same store can be opened with a larger cache.
	s.b = with(t)
	check(t, s.open(t), 0, village())
	// A cache with records is compacted in vain.
	s, e := formatted(t, 500, 9, api.Data{})
	commit(t, site{s.a, with(t)}.open(t), town("Ash"))
	for range 2 {
		if e, err := Open(s.a, s.b); e != nil || err != api.ErrFull {
			t.Errorf("Open with a full cache returns %v, %d", e, err)
		}
		if j := journalOf(t, s.b); j.Epoch() == 0 || !slices.Equal(j.Records(), []string{record(0, nil)}) {
			t.Errorf("after Open the cache has the records %q", j.Records())
		}
	}
	check(t, e, 0, api.Data{})
}

func TestP58_1OpenWriteErrors(t *testing.T) {
	s, e := formatted(t, 500, 500, village())
	commit(t, e, town("Ash"))
	old := s.now()
	commit(t, e, put(node(3, 150, 150)))
	x := site{s.a, old.b}
	want := e.Data()
	failed := 0
	for k := 0; ; k++ {
		y := x.now()
		y.b.Limit(k)
		e, err := Open(y.a, y.b)
		z := y.now().open(t)
		check(t, z, 2, want)
		if err == api.OK {
			check(t, e, 2, want)
			if z.Lag() != 0 {
				t.Errorf("after Open Lag is %d", z.Lag())
			}
			break
		}
		if e != nil || err != api.ErrFull || z.Lag() != 1 {
			t.Fatalf("Open with %d writes returns %v, %d and then Lag is %d", k, e, err, z.Lag())
		}
		failed++
	}
	if failed < 3 {
		t.Errorf("Open needs %d writes", failed)
	}
}

// only returns the dataset with the first nodes and nothing else.
func only(d api.Data, nodes int) api.Data { return api.Data{Nodes: d.Nodes[:nodes]} }

func TestP58_2Examples(t *testing.T) {
	s, e := formatted(t, 200, 400, api.Data{})
	if n := commit(t, e, town("Oak")); n != 5 {
		t.Errorf("a town changes %d tiles", n)
	}
	// The first example of the chapter, and the seventh of DOC.md.
	old := s.writes()
	commit(t, e, town("Elm"))
	for k := old[0]; k <= s.a.Writes(); k++ {
		x := s.after(k, old[1]).open(t)
		if k == s.a.Writes() {
			check(t, x, 2, mustApply(t, api.Data{}, town("Elm")))
			if x.Lag() != 1 {
				t.Errorf("after the last write of the store Lag is %d", x.Lag())
			}
			continue
		}
		check(t, x, 1, mustApply(t, api.Data{}, town("Oak")))
		if x.Lag() != 0 {
			t.Errorf("after %d writes Lag is %d", k, x.Lag())
		}
	}
}

// The number of tiles is that of those that differ between the datasets.
func TestP58_2Changed(t *testing.T) {
	_, e := formatted(t, 900, 2000, api.Data{})
	all := func(d api.Data) map[api.Tile]string {
		out := map[api.Tile]string{}
		for _, x := range full(t, d) {
			out[x.Tile] = x.Bytes
		}
		return out
	}
	var whole []api.Change
	for _, n := range village().Nodes {
		whole = append(whole, put(n))
	}
	for _, w := range village().Ways {
		whole = append(whole, put(w))
	}
	for version, x := range []struct {
		name string
		l    []api.Change
		some bool
	}{
		{"nothing", nil, false}, {"everything", whole, true}, {"the same again", whole, false}, {"a node without tags", []api.Change{put(node(99, 1, 1))}, false},
		{"a building's corner", []api.Change{put(node(8, 161, 119))}, true}, {"another name", []api.Change{town("Ash")}, true}, {"a far city", []api.Change{put(node(50, 20000, 9000, "place", "city"))}, true},
		{"a node put and deleted", []api.Change{put(node(51, 300, 300, "place", "city")), drop(api.KNode, 51)}, false}, {"a way deleted", []api.Change{drop(api.KWay, 4)}, true}, {"the city deleted", []api.Change{drop(api.KNode, 50)}, true},
	} {
		after, want := mustApply(t, e.Data(), x.l...), 0
		old, next := all(e.Data()), all(after)
		for tile, bytes := range old {
			if next[tile] != bytes {
				want++
			}
		}
		for tile := range next {
			if _, ok := old[tile]; !ok {
				want++
			}
		}
		if got := commit(t, e, x.l...); got != want || (got > 0) != x.some {
			t.Errorf("Commit of %s changes %d tiles, not %d", x.name, got, want)
		}
		check(t, e, version+1, after)
	}
}

// A commit that the store rejects has no effect.
func TestP58_2CommitErrors(t *testing.T) {
	s, e := formatted(t, 60, 200, village())
	commit(t, e, town("Ash"))
	want := mustApply(t, village(), town("Ash"))
	var large []api.Change
	for _, n := range crowded().Nodes {
		large = append(large, put(n))
	}
	long := put(node(50, 1, 1, "name", string(make([]byte, api.MaxText+1))))
	for _, x := range []struct {
		name string
		l    []api.Change
		want api.Errno
	}{
		{"an unknown operation", []api.Change{{Op: 3, Kind: api.KNode}}, api.ErrArg}, {"an unknown kind", []api.Change{{Op: api.OpPut}}, api.ErrArg},
		{"a deletion of nothing", []api.Change{drop(api.KNode, 99)}, api.ErrNone}, {"a deletion after a change", []api.Change{town("Elm"), drop(api.KRel, 99)}, api.ErrNone},
		{"a node in use", []api.Change{drop(api.KNode, 1)}, api.ErrRef}, {"a way without nodes", []api.Change{put(way(50, nil))}, api.ErrShort}, {"node 0", []api.Change{put(node(0, 1, 1))}, api.ErrRange},
		{"a node beyond the map", []api.Change{put(api.Node{ID: 50, At: api.Coord{Lon: api.MaxLon + 1}})}, api.ErrCoord}, {"a long value", []api.Change{long}, api.ErrTag}, {"a long value that is replaced", []api.Change{long, put(node(50, 1, 1))}, api.ErrLong},
		{"too many changes", make([]api.Change, api.MaxObject+1), api.ErrLong}, {"more than fits", large, api.ErrFull},
	} {
		before := answers(t, e)
		if n, err := e.Commit(x.l); n != 0 || err != x.want {
			t.Errorf("Commit of %s returns %d, %d, not %d", x.name, n, err, x.want)
		}
		same(t, answers(t, e), before)
		if c := cacheOf(t, s.b); c.Version() != 1 {
			t.Errorf("Commit of %s leads to version %d of the cache", x.name, c.Version())
		}
		check(t, s.open(t), 1, want)
	}
	commit(t, e, town("Elm"))
	check(t, e, 2, mustApply(t, village(), town("Elm")))
	check(t, s.open(t), 2, mustApply(t, village(), town("Elm")))
}

// Both devices are compacted if a record does not fit, and only then.
func TestP58_2MakesSpace(t *testing.T) {
	s, e := formatted(t, 21, 40, api.Data{})
	compacted, kept := [2]int{}, [2]int{}
	for i := range 60 {
		l := []api.Change{town(fmt.Sprint("Ash ", i%7)), put(node(2, 100+i, 100))}
		if i%3 == 0 {
			l = nil
		}
		want := mustApply(t, e.Data(), l...)
		lacks := [2]bool{
			journalOf(t, s.a).Space() < len(codec.PutChanges(l)),
			journalOf(t, s.b).Space() < len(record(i+1, tileset.Delta(e.Tiles(), full(t, want)))),
		}
		epochs := [2]int{journalOf(t, s.a).Epoch(), journalOf(t, s.b).Epoch()}
		commit(t, e, l...)
		check(t, e, i+1, want)
		for k, d := range []*device.Device{s.a, s.b} {
			more := 0
			if lacks[k] {
				more = 1
				compacted[k]++
			} else {
				kept[k]++
			}
			if got := journalOf(t, d).Epoch(); got != epochs[k]+more {
				t.Fatalf("commit %d leads device %d from epoch %d to %d", i, k, epochs[k], got)
			}
		}
		x := s.open(t)
		check(t, x, i+1, want)
		if x.Lag() != 0 || !slices.Equal(cacheOf(t, s.b).Tiles(), full(t, want)) {
			t.Fatalf("after commit %d Lag is %d", i, x.Lag())
		}
	}
	if min(compacted[0], compacted[1], kept[0], kept[1]) < 5 {
		t.Errorf("of 60 commits %v compacted the devices", compacted)
	}
}

// If the cache has too little space, the store has the change file nevertheless, and the cache follows when there is space.
func TestP58_2CacheFull(t *testing.T) {
	s, e := formatted(t, 500, 9, api.Data{})
	var d api.Data
	for i, name := range []string{"Oak", "Elm"} {
		d = mustApply(t, d, town(name))
		if n, err := e.Commit([]api.Change{town(name)}); n != 0 || err != api.ErrFull {
			t.Fatalf("Commit returns %d, %d", n, err)
		}
		check(t, e, i+1, d)
		if j := journalOf(t, s.b); j.Epoch() != i+1 || !slices.Equal(j.Records(), []string{record(0, nil)}) {
			t.Fatalf("the cache has the records %q", j.Records())
		}
		x := s.now()
		if e, err := Open(x.a, x.b); e != nil || err != api.ErrFull {
			t.Fatalf("Open returns %v, %d", e, err)
		}
		check(t, site{x.a, with(t)}.open(t), i+1, d)
	}
	if n := commit(t, e, drop(api.KNode, 1)); n != 5 {
		t.Errorf("without the town %d tiles change", n)
	}
	check(t, e, 3, api.Data{})
	x := s.open(t)
	check(t, x, 3, api.Data{})
	if x.Lag() != 0 {
		t.Errorf("the cache is %d versions behind", x.Lag())
	}
}

// The engine answers ErrFull at a write error of either device, and the state is that before or after.
func TestP58_2WriteErrors(t *testing.T) {
	for _, size := range []site{devices(500, 500), devices(21, 30)} { // large ones, and ones that are compacted
		failed := [2]int{}
		s, e := formatted(t, size.a.Blocks(), size.b.Blocks(), api.Data{})
		for i := range 12 {
			next := town(fmt.Sprint("Ash ", i))
			before, after := e.Data(), mustApply(t, e.Data(), next)
			for side := range 2 {
				for k := 0; ; k++ {
					x := s.now()
					e, writes := x.open(t), x.writes()
					x.limit(side, k)
					n, err := e.Commit([]api.Change{next})
					if err == api.OK {
						break
					}
					failed[side]++
					if n != 0 || err != api.ErrFull || x.writes()[side] != writes[side]+k {
						t.Fatalf("Commit with %d writes returns %d, %d", k, n, err)
					}
					if side == 0 && x.writes()[1] != writes[1] {
						t.Fatal("the cache is written before the store")
					}
					y := x.now().open(t)
					if want := []api.Data{before, after}[side]; !data.Same(y.Data(), want) || y.Version() != i+side || y.Lag() != side {
						t.Fatalf("after a write error the version is %d with Lag %d", y.Version(), y.Lag())
					}
					same(t, answers(t, y), required(t, y.Version(), y.Data()))
				}
			}
			commit(t, e, next)
		}
		if min(failed[0], failed[1]) < 24 {
			t.Errorf("only %v commits failed", failed)
		}
	}
}

// lattice returns a dataset with the nodes of a strip of triangles and an area without a boundary, and the changes that make all triangles, and it, areas.
func lattice() (first api.Data, closed []api.Change) {
	themes := [][]api.Tag{tagList("building", "x"), tagList("landuse", "x"), tagList("natural", "water"), tagList("boundary", "x", "area", "yes")}
	for i := range api.MaxObject {
		first.Nodes = append(first.Nodes, node(i+1, 3*i, 100+i%2))
		corner := i%(api.MaxObject-2) + 1
		closed = append(closed, put(way(i+1, themes[i%4], corner, corner+1, corner+2, corner)))
	}
	first.Ways = []api.Way{way(1, nil, 1, 2, 3)}
	first.Rels = []api.Rel{{ID: 1, Members: []api.Member{{Ref: ref(api.KWay, 1)}}, Tags: tagList("type", "multipolygon", "building", "x")}}
	return first, closed
}

func TestP58_2TooManyAreas(t *testing.T) {
	t.Parallel()
	first, closed := lattice()
	s, e := formatted(t, api.MaxBlocks, 20000, first)
	if n, err := e.Commit(closed); n != 0 || err != api.ErrLong {
		t.Fatalf("Commit of %d areas returns %d, %d", len(closed)+1, n, err)
	}
	// The error comes last: both devices have the version.
	d := mustApply(t, first, closed...)
	if e.Version() != 1 || !data.Same(e.Data(), d) || cacheOf(t, s.b).Version() != 1 || !slices.Equal(cacheOf(t, s.b).Tiles(), e.Tiles()) {
		t.Errorf("after the error the engine has version %d, and the cache %d", e.Version(), cacheOf(t, s.b).Version())
	}
	if n := len(e.At(api.Point{X: 3, Y: 101})); n != 0 {
		t.Errorf("there are %d areas", n)
	}
	if e, err := Open(s.a, s.b); e != nil || err != api.ErrLong {
		t.Errorf("Open with too many areas returns %v, %d", e, err)
	}
	// Without the areas everything is as usual.
	for i := range closed {
		closed[i].Way.Tags = nil
	}
	tiles := len(e.Tiles())
	if n := commit(t, e, closed...); n != tiles || n == 0 {
		t.Errorf("of %d tiles %d change", tiles, n)
	}
	same(t, fmt.Sprint(e.Version(), e.Tiles(), e.At(api.Point{X: 6, Y: 100})), fmt.Sprint(2, full(t, mustApply(t, first, closed...)), []api.Ref{ref(api.KRel, 1)}))
	if x := s.open(t); x.Lag() != 0 || !slices.Equal(x.Tiles(), e.Tiles()) {
		t.Errorf("after the error the cache is %d versions behind", x.Lag())
	}
}

// Open finds a first dataset with too many areas after it filled the cache.
func TestP58_2TooManyFirstAreas(t *testing.T) {
	t.Parallel()
	first, closed := lattice()
	s := devices(api.MaxBlocks, 20000)
	if err := Format(s.a, s.b, mustApply(t, first, closed...)); err != api.OK {
		t.Fatalf("Format returns %d", err)
	}
	if e, err := Open(s.a, s.b); e != nil || err != api.ErrLong || cacheOf(t, s.b).Version() != 0 {
		t.Errorf("Open with too many areas returns %v, %d", e, err)
	}
	small := device.New(9)
	if err := cache.Format(small); err != api.OK {
		t.Fatal(err)
	}
	// The error of the cache comes before.
	if e, err := Open(s.a, small); e != nil || err != api.ErrFull {
		t.Errorf("Open with a small cache returns %v, %d", e, err)
	}
}

// A net that cannot be built is an error like an index that cannot be built.
func TestP58_2TooManyTurns(t *testing.T) {
	t.Parallel()
	first := api.Data{Nodes: []api.Node{node(1, 1000, 1000)}}
	var l []api.Change
	for id := 2; id <= 2101; id++ {
		first.Nodes = append(first.Nodes, node(id, id, 0))
		l = append(l, put(way(id, tagList("highway", "track"), 1, id)))
	}
	s, e := formatted(t, 9000, 60000, first)
	if n, err := e.Commit(l); n != 0 || err != api.ErrLong || e.Version() != 1 || e.Net() != nil {
		t.Errorf("Commit of %d roads returns %d, %d", len(l), n, err)
	}
	if e, err := Open(s.a, s.b); e != nil || err != api.ErrLong {
		t.Errorf("Open with %d roads returns %v, %d", len(l), e, err)
	}
	for i := range l {
		l[i] = drop(api.KWay, i+2)
	}
	commit(t, e, l...)
	same(t, fmt.Sprint(e.Version(), e.Tiles(), e.Net().Roads()), fmt.Sprint(2, full(t, first), api.Roads{}))
}

// The products are those of the dataset after the commit.
func TestP58_2Products(t *testing.T) {
	_, e := formatted(t, 900, 900, api.Data{Nodes: village().Nodes})
	at := func(x, y int, want ...api.Ref) {
		t.Helper()
		if got := e.At(api.Point{X: x, Y: y}); !slices.Equal(got, want) {
			t.Errorf("the areas at %d %d are %v, not %v", x, y, got, want)
		}
	}
	route := func(from, to int, want int, err api.Errno) {
		t.Helper()
		if l, _, got := e.Net().Route(from, to); len(l) != want || got != err {
			t.Errorf("the route from %d to %d has %d pieces, %d, not %d, %d", from, to, len(l), got, want, err)
		}
	}
	find := func(q string, want ...api.Ref) {
		t.Helper()
		var got []api.Ref
		for _, h := range e.Coder().Find(q, most) {
			got = append(got, h.Ref)
		}
		if !slices.Equal(got, want) {
			t.Errorf("with the name %q there are %v, not %v", q, got, want)
		}
	}
	at(130, 130)
	route(1, 3, 0, api.ErrNone)
	find("oak", ref(api.KNode, 1))
	v := village()
	var l []api.Change
	for _, w := range v.Ways {
		l = append(l, put(w))
	}
	commit(t, e, append(l, put(v.Rels[0]), put(v.Rels[1]))...)
	// Way 3 crosses way 1, which has the same theme.
	at(130, 130, ref(api.KWay, 1), ref(api.KWay, 4), ref(api.KRel, 2))
	at(150, 150, ref(api.KWay, 4))
	at(140, 130, ref(api.KWay, 1), ref(api.KWay, 2), ref(api.KWay, 4), ref(api.KRel, 2))
	at(99, 130)
	route(1, 3, 0, api.ErrPath)
	route(3, 1, 2, api.OK)
	find("oak", ref(api.KNode, 1), ref(api.KWay, 5))
	commit(t, e, drop(api.KWay, 3), drop(api.KRel, 1), town("Ash"), put(way(1, nil, 1, 2, 3, 4, 1)))
	at(130, 130, ref(api.KWay, 4), ref(api.KRel, 2))
	route(1, 3, 2, api.OK)
	find("oak", ref(api.KWay, 5))
	find("as", ref(api.KNode, 1))
	commit(t, e, put(way(3, tagList("landuse", "farm"), 7, 8, 9, 10, 7)), put(way(2, nil, 1, 2)))
	at(150, 150, ref(api.KWay, 3), ref(api.KWay, 4))
	commit(t, e, drop(api.KRel, 2), drop(api.KWay, 4), put(way(5, nil, 1, 2)), put(way(3, nil, 1, 2)))
	at(130, 130)
	at(150, 150)
	route(1, 3, 0, api.ErrNone)
	find("oak")
}

func TestP58_3Tile(t *testing.T) {
	s, e := formatted(t, 900, 900, village())
	for range 2 {
		want := map[api.Tile]string{}
		for _, x := range full(t, e.Data()) {
			want[x.Tile] = x.Bytes
		}
		found := 0
		for id := 0; ; id++ {
			tile, ok := tilegrid.Tile(id)
			if !ok {
				break
			}
			bytes, err := e.Tile(tile)
			if bytes != want[tile] || err != api.OK {
				t.Fatalf("Tile(%v) is %q, %d, not %q", tile, bytes, err, want[tile])
			}
			if bytes != "" {
				found++
			}
		}
		if l := e.Tiles(); found != len(l) || found < 8 || tileset.Check(l) != api.OK {
			t.Errorf("Tile finds %d of %d tiles", found, len(l))
		}
		commit(t, e, put(node(50, 9000, 9000, "place", "city")))
		e = s.open(t)
	}
	for _, tile := range []api.Tile{{Z: -1}, {Z: 8}, {Z: 1, X: 2}, {Z: 1, Y: 2}, {X: -1}, {Y: -1}, {Z: 1 << 40, X: 1 << 40, Y: -1 << 40}} {
		if bytes, err := e.Tile(tile); bytes != "" || err != api.ErrTile {
			t.Errorf("Tile(%v) is %q, %d", tile, bytes, err)
		}
	}
	for _, p := range []api.Point{{X: -1}, {Y: api.Side}, {X: 1 << 40, Y: -1 << 40}} {
		if l := e.At(p); len(l) != 0 {
			t.Errorf("the areas at %v are %v", p, l)
		}
	}
}

// What a caller does with the net or the coder does not change those of the engine, nor do commits change them.
func TestP58_3NetAndCoder(t *testing.T) {
	_, e := formatted(t, 900, 900, village())
	n, c := e.Net(), e.Coder()
	if count, err := n.Report([]api.Report{{Way: 5, Percent: 0, Since: 0, Until: 9}}, 1); count == 0 || err != api.OK {
		t.Fatalf("Report returns %d, %d", count, err)
	}
	if _, _, err := n.Route(1, 5); err != api.ErrPath {
		t.Errorf("Route on a closed road returns %d", err)
	}
	if count, err := c.Update(api.Data{}); count == 0 || err != api.OK || c.Len() != 0 {
		t.Errorf("Update returns %d, %d", count, err)
	}
	check(t, e, 0, village())
	held, coder := e.Net(), e.Coder()
	commit(t, e, put(way(5, nil, 1, 2)), town("Ash"))
	check(t, e, 1, mustApply(t, village(), put(way(5, nil, 1, 2)), town("Ash")))
	if l, _, err := held.Route(1, 5); len(l) != 2 || err != api.OK {
		t.Errorf("the old net has a route of %d pieces, %d", len(l), err)
	}
	if l := coder.Find("oak", most); len(l) != 2 {
		t.Errorf("the old coder finds %v", l)
	}
	if _, _, err := n.Route(1, 5); err != api.ErrPath {
		t.Errorf("Route on a closed road returns %d after a commit", err)
	}
}

func TestP58_3Compact(t *testing.T) {
	s, e := formatted(t, 500, 500, village())
	for i := range 4 {
		if i > 0 {
			commit(t, e, town(fmt.Sprint("Ash ", i)))
			commit(t, e)
		}
		before := answers(t, e)
		old := s.now()
		if err := e.Compact(); err != api.OK {
			t.Fatalf("Compact returns %d", err)
		}
		same(t, answers(t, e), before)
		x := s.open(t)
		same(t, answers(t, x), before)
		if x.Lag() != 0 {
			t.Errorf("after Compact Lag is %d", x.Lag())
		}
		if got, want := journalOf(t, s.a).Records(), []string{wire.PutInt("", 2*i) + codec.PutData(e.Data())}; !slices.Equal(got, want) {
			t.Errorf("after Compact the store has %q, not %q", got, want)
		}
		if got, want := journalOf(t, s.b).Records(), []string{record(2*i, full(t, e.Data()))}; !slices.Equal(got, want) {
			t.Errorf("after Compact the cache has %q, not %q", got, want)
		}
		compactLimited(t, old, before)
	}
}

// compactLimited tests write errors of Compact.
func compactLimited(t *testing.T, s site, want string) {
	t.Helper()
	for side := range 2 {
		for k := 0; ; k++ {
			x := s.now()
			e := x.open(t)
			x.limit(side, k)
			err := e.Compact()
			same(t, answers(t, x.now().open(t)), want)
			if err == api.OK {
				break
			}
			if err != api.ErrFull || x.writes()[side] != k || side == 0 && x.writes()[1] != 0 {
				t.Fatalf("Compact with %d writes returns %d after %v writes", k, err, x.writes())
			}
		}
	}
}

func TestP58_3Nil(t *testing.T) {
	var e *Engine
	if e.Version() != 0 || !reflect.DeepEqual(e.Data(), api.Data{}) || e.Lag() != 0 || e.Tiles() != nil || e.At(api.Point{}) != nil || e.Net() != nil || e.Coder() != nil || e.Compact() != api.ErrArg {
		t.Error("a nil engine has something")
	}
	for _, l := range [][]api.Change{nil, {town("Oak")}, {{}}} {
		if n, err := e.Commit(l); n != 0 || err != api.ErrArg {
			t.Errorf("Commit of a nil engine returns %d, %d", n, err)
		}
	}
	for _, tile := range []api.Tile{{}, {Z: 9}} {
		if bytes, err := e.Tile(tile); bytes != "" || err != api.ErrArg {
			t.Errorf("Tile of a nil engine is %q, %d", bytes, err)
		}
	}
}

func TestP58_Aliasing(t *testing.T) {
	first := village()
	s, e := formatted(t, 900, 900, first)
	spare := []api.Change{put(way(8, tagList("landuse", "x"), 7, 8, 9, 7)), town("Ash"), town("Elm")}
	saved := []api.Change{put(way(8, tagList("landuse", "x"), 7, 8, 9, 7)), town("Ash"), town("Elm")}
	want := mustApply(t, village(), saved[:2]...)
	commit(t, e, spare[:2]...)
	if !reflect.DeepEqual(spare, saved) || !reflect.DeepEqual(first, village()) {
		t.Error("an argument is changed")
	}
	clear(spare[0].Way.Nodes)
	clear(spare[0].Way.Tags)
	clear(spare[1].Node.Tags)
	for _, x := range []*Engine{e, s.open(t)} {
		d := x.Data()
		clear(d.Nodes[0].Tags)
		clear(d.Ways[0].Nodes)
		clear(d.Rels[0].Members)
		clear(d.Ways)
		l := x.Tiles()
		_ = append(l[:1], api.Blob{})
		clear(l)
		clear(x.At(api.Point{X: 130, Y: 130}))
		check(t, x, 1, want)
	}
	held := e.Tiles()
	saying := fmt.Sprint(held)
	commit(t, e, spare[2])
	if fmt.Sprint(held) != saying {
		t.Error("a result changes later")
	}
}

// The products of the lower layers are those that chapter 58 names.
func TestP58_4BuiltAnew(t *testing.T) {
	s, e := formatted(t, 900, 900, api.Data{})
	commit(t, e, put(village().Nodes[0]))
	for _, n := range village().Nodes[1:] {
		commit(t, e, put(n))
	}
	for _, w := range village().Ways {
		commit(t, e, put(w))
	}
	for _, r := range village().Rels {
		commit(t, e, put(r))
	}
	d := e.Data()
	if !data.Same(d, village()) {
		t.Fatalf("the dataset is %v", d)
	}
	all, _ := areas.All(d)
	planar, _ := areas.Planar(all)
	index, err := locate.New(planar, 8)
	if err != api.OK {
		t.Fatal(err)
	}
	n, err := travel.New(d)
	if err != api.OK {
		t.Fatal(err)
	}
	c, err := geocode.New(d)
	if err != api.OK {
		t.Fatal(err)
	}
	for _, e := range []*Engine{e, s.open(t)} {
		check(t, e, 19, d)
		for _, p := range points(d) {
			if got := e.At(p); !slices.Equal(got, index.At(p)) {
				t.Errorf("the areas at %v are %v", p, got)
			}
			if got := e.Coder().Near(p, 3); !slices.Equal(got, c.Near(p, 3)) {
				t.Errorf("near %v are %v", p, got)
			}
		}
		for _, u := range n.Roads().Nodes {
			got, err := e.Net().Reach(u, 10000)
			want, _ := n.Reach(u, 10000)
			if !slices.Equal(got, want) || err != api.OK {
				t.Errorf("from %d %v can be reached, %d", u, got, err)
			}
			for _, v := range n.Roads().Nodes {
				_, got, err := e.Net().Depart(u, v, 7)
				_, want, wantErr := n.Depart(u, v, 7)
				if got != want || err != wantErr {
					t.Errorf("from %d to %d the arrival is %d, %d", u, v, got, err)
				}
			}
		}
	}
}
