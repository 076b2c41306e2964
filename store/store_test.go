package store

import (
	"fmt"
	"math"
	"math/rand"
	"slices"
	"strings"
	"testing"

	"mapmaker/api"
	"mapmaker/change"
	"mapmaker/codec"
	"mapmaker/data"
	"mapmaker/device"
	"mapmaker/journal"
	"mapmaker/wire"
)

func putNode(id int, l ...api.Tag) api.Change {
	return api.Change{Op: api.OpPut, Kind: api.KNode, Node: api.Node{ID: id, At: api.Coord{Lon: id, Lat: -id}, Tags: l}}
}

func dropNode(id int) api.Change {
	return api.Change{Op: api.OpDelete, Kind: api.KNode, Node: api.Node{ID: id}}
}

func putWay(id int, nodes ...int) api.Change {
	return api.Change{Op: api.OpPut, Kind: api.KWay, Way: api.Way{ID: id, Nodes: nodes}}
}

// nodes returns the dataset with these nodes.
func nodes(ids ...int) (d api.Data) {
	for _, id := range ids {
		d.Nodes = append(d.Nodes, putNode(id).Node)
	}
	return d
}

// full returns a dataset with all kinds of objects.
func full() api.Data {
	d := nodes(1, 2, 3)
	d.Nodes[1].Tags = []api.Tag{{Key: "a", Val: "b"}}
	d.Ways = []api.Way{{ID: 7, Nodes: []int{1, 2, 3, 1}, Tags: []api.Tag{{Key: "name", Val: strings.Repeat("x", 40)}}}}
	d.Rels = []api.Rel{{ID: 9, Members: []api.Member{{Ref: api.Ref{Kind: api.KWay, ID: 7}, Role: "outer"}}, Tags: []api.Tag{{Key: "type", Val: "y"}}}}
	return d
}

// opened formats a device and opens its store.
func opened(t *testing.T, blocks int, first api.Data) (*device.Device, *Store) {
	t.Helper()
	d := device.New(blocks)
	if err := Format(d, first); err != api.OK {
		t.Fatalf("Format returns %d", err)
	}
	return d, open(t, d)
}

func open(t *testing.T, d *device.Device) *Store {
	t.Helper()
	s, err := Open(d)
	if s == nil || err != api.OK {
		t.Fatalf("Open returns %d", err)
	}
	return s
}

func commit(t *testing.T, s *Store, l ...api.Change) {
	t.Helper()
	if err := s.Commit(l); err != api.OK {
		t.Fatalf("Commit(%v) returns %d", l, err)
	}
}

// blocksOf returns the blocks of a device.
func blocksOf(d *device.Device) (out []string) {
	for i := range d.Blocks() {
		s, _ := d.Read(i)
		out = append(out, s)
	}
	return out
}

func recordsOf(t *testing.T, d *device.Device) []string {
	t.Helper()
	j, err := journal.Open(d)
	if err != api.OK {
		t.Fatalf("journal.Open returns %d", err)
	}
	return j.Records()
}

func snapshot(version int, d api.Data) string { return wire.PutInt("", version) + codec.PutData(d) }

func TestP56_1Records(t *testing.T) {
	d, s := opened(t, 99, full())
	a := []api.Change{putNode(4), dropNode(4), putNode(5, api.Tag{Key: "k", Val: "v"})}
	b := []api.Change{putWay(8, 5, 1)}
	want := []string{snapshot(0, full())}
	if got := recordsOf(t, d); !slices.Equal(got, want) {
		t.Fatalf("after Format the records are %q, not %q", got, want)
	}
	commit(t, s, a...)
	commit(t, s)
	commit(t, s, b...)
	want = append(want, codec.PutChanges(a), codec.PutChanges(nil), codec.PutChanges(b))
	if got := recordsOf(t, d); !slices.Equal(got, want) {
		t.Fatalf("after three commits the records are %q, not %q", got, want)
	}
	if err := s.Compact(); err != api.OK {
		t.Fatalf("Compact returns %d", err)
	}
	commit(t, s, a...)
	want = []string{snapshot(3, mustApply(t, full(), slices.Concat(a, b))), codec.PutChanges(a)}
	if got := recordsOf(t, d); !slices.Equal(got, want) {
		t.Fatalf("after Compact and a commit the records are %q, not %q", got, want)
	}
}

func mustApply(t *testing.T, d api.Data, l []api.Change) api.Data {
	t.Helper()
	out, err := change.Apply(d, l)
	if err != api.OK {
		t.Fatalf("Apply(%v) returns %d", l, err)
	}
	return out
}

func TestP56_1FormatErrors(t *testing.T) {
	bad := nodes(1, 1)
	for _, x := range []struct {
		name  string
		d     *device.Device
		first api.Data
		want  api.Errno
	}{
		{"no device", nil, api.Data{}, api.ErrArg}, {"no device and bad data", nil, bad, api.ErrOrder},
		{"4 blocks", device.New(4), full(), api.ErrShort}, {"4 blocks and bad data", device.New(4), nodes(0), api.ErrRange},
		{"bad data", device.New(50), api.Data{Ways: []api.Way{{ID: 1, Nodes: []int{1, 2}}}}, api.ErrRef},
		{"5 blocks", device.New(5), api.Data{}, api.OK}, {"5 blocks and a node", device.New(5), nodes(1), api.OK},
		{"too little space", device.New(6), full(), api.ErrFull}, {"just enough space", device.New(7), full(), api.OK},
	} {
		if err := Format(x.d, x.first); err != x.want {
			t.Errorf("Format with %s returns %d, not %d", x.name, err, x.want)
		}
	}
	if n := len(snapshot(0, full())); n <= api.BlockSize || n > 2*api.BlockSize {
		t.Errorf("the snapshot has %d bytes", n)
	}
}

func TestP56_1FailedFormat(t *testing.T) {
	d, s := opened(t, 6, nodes(1))
	if err := s.Compact(); err != api.OK {
		t.Fatal(err)
	}
	before, writes := blocksOf(d), d.Writes()
	for _, first := range []api.Data{full(), nodes(2, 1)} {
		if err := Format(d, first); err == api.OK || d.Writes() != writes || !slices.Equal(blocksOf(d), before) {
			t.Errorf("Format returns %d after %d writes", err, d.Writes()-writes)
		}
	}
	if err := Format(d, nodes(5)); err != api.OK || open(t, d).Data().Nodes[0].ID != 5 {
		t.Errorf("Format of a device in use returns %d", err)
	}
}

func TestP56_1LimitedFormat(t *testing.T) {
	d := device.New(30)
	if err := Format(d, full()); err != api.OK {
		t.Fatal(err)
	}
	need := d.Writes()
	for k := range need + 1 {
		d := device.New(30)
		d.Limit(k)
		err := Format(d, full())
		if (err == api.OK) != (k == need) || err != api.OK && err != api.ErrFull {
			t.Errorf("Format with %d of %d writes returns %d", k, need, err)
		}
		s, err := Open(d)
		if (s != nil) != (k == need) || (err == api.OK) != (k == need) {
			t.Errorf("Open after %d of %d writes of Format returns %d", k, need, err)
		}
	}
}

// with returns a device whose journal has these records.
func with(t *testing.T, l ...string) *device.Device {
	t.Helper()
	d := device.New(2000)
	if err := journal.Format(d); err != api.OK {
		t.Fatal(err)
	}
	j, err := journal.Open(d)
	if err != api.OK {
		t.Fatal(err)
	}
	for _, s := range l {
		if err := j.Append(s); err != api.OK {
			t.Fatal(err)
		}
	}
	return d
}

func TestP56_1OpenErrors(t *testing.T) {
	first := snapshot(0, full())
	one := codec.PutChanges([]api.Change{putNode(5)})
	manyTags := make([]api.Tag, api.MaxTags+1)
	for _, x := range []struct {
		name string
		d    *device.Device
		want api.Errno
	}{
		{"no device", nil, api.ErrArg}, {"4 blocks", device.New(4), api.ErrShort}, {"no journal", device.New(9), api.ErrForm},
		{"no records", with(t), api.ErrEmpty},
		{"a snapshot", with(t, first), api.OK}, {"a snapshot and changes", with(t, first, one), api.OK}, {"no changes", with(t, first, codec.PutChanges(nil)), api.OK},
		{"a late version", with(t, snapshot(math.MaxInt-1, full()), one), api.OK},
		{"the last version", with(t, snapshot(math.MaxInt, full())), api.OK},
		{"a version after the last one", with(t, snapshot(math.MaxInt, full()), one), api.ErrForm},
		{"an empty record", with(t, ""), api.ErrForm},
		{"a version only", with(t, wire.PutInt("", 3)), api.ErrForm},
		{"half a version", with(t, "\x80"), api.ErrForm},
		{"a version that is too long", with(t, strings.Repeat("\xff", 10)+codec.PutData(full())), api.ErrForm},
		{"version -1", with(t, snapshot(-1, full())), api.ErrForm}, {"the smallest version", with(t, snapshot(math.MinInt, full())), api.ErrForm},
		{"a snapshot that ends early", with(t, first[:len(first)-1]), api.ErrForm}, {"a snapshot with a further byte", with(t, first+"\x00"), api.ErrForm},
		{"data in a wrong order", with(t, snapshot(0, nodes(2, 1))), api.ErrForm}, {"data with a missing node", with(t, snapshot(0, api.Data{Ways: full().Ways})), api.ErrForm},
		{"no further byte", with(t, first, ""), api.ErrForm}, {"changes that end early", with(t, first, one[:len(one)-1]), api.ErrForm}, {"changes with a further byte", with(t, first, one+"\x00"), api.ErrForm},
		{"changes first", with(t, one), api.ErrForm}, {"a second snapshot", with(t, first, first), api.ErrForm},
		{"a deletion of nothing", with(t, first, codec.PutChanges([]api.Change{dropNode(5)})), api.ErrForm},
		{"a deletion of a node in use", with(t, first, codec.PutChanges([]api.Change{dropNode(1)})), api.ErrForm},
		{"an operation 3", with(t, first, codec.PutChanges([]api.Change{{Op: 3, Kind: api.KNode}})), api.ErrForm},
		{"a change that is repaired later", with(t, first, codec.PutChanges([]api.Change{putNode(0)}), codec.PutChanges([]api.Change{dropNode(0)})), api.ErrForm},
		{"too many tags", with(t, first, codec.PutChanges([]api.Change{putNode(5, manyTags...)})), api.ErrForm},
	} {
		s, err := Open(x.d)
		if err != x.want || (s != nil) != (err == api.OK) {
			t.Errorf("Open of %s returns %d, not %d", x.name, err, x.want)
		}
	}
}

func TestP56_1LastVersion(t *testing.T) {
	d := with(t, snapshot(math.MaxInt-1, nodes(1)))
	s := open(t, d)
	commit(t, s, putNode(2))
	writes := d.Writes()
	if err := s.Commit([]api.Change{putNode(3)}); err != api.ErrFull || s.Version() != math.MaxInt || d.Writes() != writes {
		t.Errorf("a commit after the last version returns %d", err)
	}
	if l, err := s.Since(math.MaxInt - 1); len(l) != 1 || err != api.OK {
		t.Errorf("Since is %v, %d", l, err)
	}
	if s = open(t, d); s.Version() != math.MaxInt || s.Base() != math.MaxInt-1 {
		t.Errorf("the versions are %d and %d", s.Version(), s.Base())
	}
}

func TestP56_2Example(t *testing.T) {
	_, s := opened(t, 50, api.Data{})
	commit(t, s, putNode(1))
	if l, err := s.Since(0); s.Version() != 1 || len(l) != 1 || err != api.OK {
		t.Errorf("the version is %d and Since(0) %v, %d", s.Version(), l, err)
	}
}

func TestP56_2CommitErrors(t *testing.T) {
	long := strings.Repeat("x", api.MaxText+1)
	manyTags := make([]api.Tag, api.MaxTags+1)
	manyNodes := make([]int, api.MaxPoints+1)
	crowd := api.Change{Op: api.OpPut, Kind: api.KRel, Rel: api.Rel{ID: 11, Members: make([]api.Member, api.MaxMember+1)}}
	role := api.Change{Op: api.OpPut, Kind: api.KRel, Rel: api.Rel{ID: 11, Members: []api.Member{{Role: long}}}}
	dropRel := api.Change{Op: api.OpDelete, Kind: api.KRel, Rel: api.Rel{ID: 11}}
	dropWay := api.Change{Op: api.OpDelete, Kind: api.KWay, Way: api.Way{ID: 11}}
	var big []api.Change
	for id := 10; id < 60; id++ {
		big = append(big, putNode(id, api.Tag{Key: "k", Val: strings.Repeat("v", 60)}))
	}
	for _, x := range []struct {
		name string
		l    []api.Change
		want api.Errno
	}{
		{"an unknown operation", []api.Change{{Op: 3, Kind: api.KNode}}, api.ErrArg}, {"an unknown kind", []api.Change{{Op: api.OpPut}}, api.ErrArg},
		{"a deletion of nothing", []api.Change{dropNode(8)}, api.ErrNone}, {"a node in use", []api.Change{dropNode(1)}, api.ErrRef},
		{"node 0", []api.Change{putNode(0)}, api.ErrRange}, {"too many changes", make([]api.Change, api.MaxObject+1), api.ErrLong},
		{"a long value", []api.Change{putNode(8, api.Tag{Key: "k", Val: long})}, api.ErrTag},
		{"a long value that is replaced", []api.Change{putNode(8, api.Tag{Key: "k", Val: long}), putNode(8)}, api.ErrLong},
		{"a long key that is deleted", []api.Change{putNode(8, api.Tag{Key: long}), dropNode(8)}, api.ErrLong},
		{"many tags that are deleted", []api.Change{putNode(8, manyTags...), dropNode(8)}, api.ErrLong},
		{"many nodes that are deleted", []api.Change{putWay(11, manyNodes...), dropWay}, api.ErrLong},
		{"many members that are deleted", []api.Change{crowd, dropRel}, api.ErrLong},
		{"a long role that is deleted", []api.Change{role, dropRel}, api.ErrLong},
		{"a long value that is replaced, and a deletion of nothing", []api.Change{putNode(8, api.Tag{Key: "k", Val: long}), putNode(8), dropNode(9)}, api.ErrNone},
		{"a long value that is replaced, and more than fits", append([]api.Change{putNode(8, api.Tag{Key: "k", Val: long}), putNode(8)}, big...), api.ErrLong},
		{"more than fits", big, api.ErrFull},
	} {
		d, s := opened(t, 25, full())
		commit(t, s, putNode(4))
		before, writes := blocksOf(d), d.Writes()
		want := mustApply(t, full(), []api.Change{putNode(4)})
		if err := s.Commit(x.l); err != x.want {
			t.Errorf("Commit of %s returns %d, not %d", x.name, err, x.want)
		}
		if l, err := s.Since(0); s.Version() != 1 || s.Base() != 0 || !data.Same(s.Data(), want) || len(l) != 1 || err != api.OK {
			t.Errorf("Commit of %s changes the store", x.name)
		}
		if d.Writes() != writes || !slices.Equal(blocksOf(d), before) {
			t.Errorf("Commit of %s writes", x.name)
		}
		commit(t, s, putNode(5))
		if s = open(t, d); s.Version() != 2 || len(s.Data().Nodes) != 5 {
			t.Errorf("after Commit of %s the next one is lost", x.name)
		}
	}
	// Objects in between that are not valid, but within the limits of the encoding.
	d, s := opened(t, 25, full())
	commit(t, s, putNode(0), putWay(-5, 77), dropNode(0), api.Change{Op: api.OpDelete, Kind: api.KWay, Way: api.Way{ID: -5}})
	if s = open(t, d); s.Version() != 1 || !data.Same(s.Data(), full()) {
		t.Error("a change file with objects that are not valid in between is lost")
	}
}

// sameChanges reports whether two change files are equal in all fields.
func sameChanges(a, b []api.Change) bool {
	return slices.EqualFunc(a, b, func(x, y api.Change) bool {
		return x.Op == y.Op && x.Kind == y.Kind && data.Same(objectOf(x), objectOf(y))
	})
}

// objectOf returns the objects of a change as a dataset.
func objectOf(c api.Change) api.Data {
	return api.Data{Nodes: []api.Node{c.Node}, Ways: []api.Way{c.Way}, Rels: []api.Rel{c.Rel}}
}

func TestP56_2Since(t *testing.T) {
	d, s := opened(t, 200, full())
	// Unused fields are not kept.
	a := putNode(4)
	a.Way, a.Rel = api.Way{ID: 5, Nodes: []int{1}}, api.Rel{ID: 6}
	b := dropNode(4)
	b.Node.At.Lon, b.Node.Tags = 7, []api.Tag{{Key: "k", Val: "v"}}
	c := putWay(8, 1, 2)
	c.Node = api.Node{ID: 99}
	e := api.Change{Op: api.OpPut, Kind: api.KRel, Rel: api.Rel{ID: 10, Members: []api.Member{{Ref: api.Ref{Kind: api.KNode, ID: 1}, Role: "r"}}}}
	commit(t, s, a)
	commit(t, s)
	commit(t, s, b, c)
	commit(t, s, e)
	plain := []api.Change{putNode(4), dropNode(4), putWay(8, 1, 2), e}
	for round := range 2 {
		for version, want := range map[int][]api.Change{0: plain, 1: plain[1:], 2: plain[1:], 3: plain[3:], 4: nil} {
			if l, err := s.Since(version); err != api.OK || !sameChanges(l, want) {
				t.Errorf("round %d: Since(%d) is %v, %d, not %v", round, version, l, err, want)
			}
		}
		for _, version := range []int{-1, 5, math.MinInt, math.MaxInt} {
			if l, err := s.Since(version); err != api.ErrVersion || len(l) != 0 {
				t.Errorf("round %d: Since(%d) is %v, %d", round, version, l, err)
			}
		}
		s = open(t, d)
	}
}

func TestP56_2Compact(t *testing.T) {
	d, s := opened(t, 60, full())
	commit(t, s, putNode(4))
	commit(t, s, putNode(5))
	for range 3 {
		if err := s.Compact(); err != api.OK || s.Base() != 2 || s.Version() != 2 || len(s.Data().Nodes) != 5 {
			t.Errorf("Compact returns %d with the versions %d and %d", err, s.Base(), s.Version())
		}
		if got := recordsOf(t, d); !slices.Equal(got, []string{snapshot(2, s.Data())}) {
			t.Errorf("the records are %q", got)
		}
	}
	for version, want := range map[int]api.Errno{0: api.ErrVersion, 1: api.ErrVersion, 2: api.OK, 3: api.ErrVersion} {
		if l, err := s.Since(version); err != want || len(l) != 0 {
			t.Errorf("after Compact Since(%d) is %v, %d", version, l, err)
		}
	}
	commit(t, s, putNode(6))
	if l, err := s.Since(2); err != api.OK || !sameChanges(l, []api.Change{putNode(6)}) {
		t.Errorf("after Compact and a commit Since(2) is %v, %d", l, err)
	}
	if l, err := s.Since(1); err != api.ErrVersion || len(l) != 0 {
		t.Errorf("after Compact and a commit Since(1) is %v, %d", l, err)
	}
}

func TestP56_2CompactMakesSpace(t *testing.T) {
	d, s := opened(t, 17, api.Data{}) // regions of 8 blocks: a snapshot and three commits
	versions := 0
	for i := range 40 {
		err := s.Commit([]api.Change{putNode(1 + i%2)})
		switch {
		case err == api.OK:
			versions++
		case err == api.ErrFull && i%4 == 3:
			if err := s.Compact(); err != api.OK {
				t.Fatalf("Compact returns %d", err)
			}
		default:
			t.Fatalf("commit %d returns %d", i, err)
		}
		if s.Version() != versions || open(t, d).Version() != versions {
			t.Fatalf("the version is %d, not %d", s.Version(), versions)
		}
	}
}

func TestP56_2Nil(t *testing.T) {
	var s *Store
	if l, err := s.Since(0); !data.Same(s.Data(), api.Data{}) || s.Version() != 0 || s.Base() != 0 || s.Commit(nil) != api.ErrArg || s.Compact() != api.ErrArg || len(l) != 0 || err != api.ErrArg {
		t.Error("a nil store has something")
	}
}

// state is what a store says about itself.
type state struct {
	version, base int
	data          api.Data
	changes       []api.Change
}

func stateOf(s *Store) state {
	l, _ := s.Since(s.Base())
	return state{s.Version(), s.Base(), s.Data(), l}
}

func (x state) same(y state) bool {
	return x.version == y.version && x.base == y.base && data.Same(x.data, y.data) && sameChanges(x.changes, y.changes)
}

// randomChanges returns changes of few nodes and ways, most of which are possible.
func randomChanges(r *rand.Rand) (l []api.Change) {
	for range r.Intn(4) {
		id := 1 + r.Intn(6)
		switch r.Intn(4) {
		case 0:
			l = append(l, dropNode(id))
		case 1:
			l = append(l, putWay(id, 1+r.Intn(6), 1+r.Intn(6)))
		default:
			l = append(l, putNode(id, api.Tag{Key: "k", Val: fmt.Sprint(r.Intn(1000), strings.Repeat("x", r.Intn(50)))}))
		}
	}
	return l
}

// step applies a random operation and returns its error.
func step(r *rand.Rand, s *Store) api.Errno {
	if r.Intn(6) == 0 {
		return s.Compact()
	}
	return s.Commit(randomChanges(r))
}

func TestP56_3Crashes(t *testing.T) {
	for seed := range 40 {
		r := rand.New(rand.NewSource(int64(seed)))
		d, s := opened(t, 61, nodes(1, 2, 3, 4, 5, 6))
		for range 40 {
			before, writes := stateOf(s), d.Writes()
			err := step(r, s)
			after := stateOf(s)
			if err != api.OK && (!after.same(before) || d.Writes() != writes) {
				t.Fatalf("an operation that returns %d has an effect", err)
			}
			for k := writes; k <= d.Writes(); k++ {
				want := before
				if k == d.Writes() {
					want = after
				}
				if got := stateOf(open(t, d.After(k))); !got.same(want) {
					t.Fatalf("after %d of %d writes the store has %v, not %v", k-writes, d.Writes()-writes, got, want)
				}
			}
		}
	}
}

func TestP56_3GoOnAfterCrashes(t *testing.T) {
	for seed := range 60 {
		r := rand.New(rand.NewSource(int64(seed)))
		d, s := opened(t, 61, nodes(1, 2, 3, 4, 5, 6))
		crashes := 0
		for range 60 {
			before := stateOf(s)
			limit := r.Intn(8)
			d.Limit(limit)
			writes := d.Writes()
			err := step(r, s)
			after := stateOf(s)
			crashed := err == api.ErrFull && d.Writes()-writes == limit
			if crashed {
				crashes++
				after = before
			}
			// The limit ends with the crash.
			d = d.After(d.Writes())
			s = open(t, d)
			if !stateOf(s).same(after) {
				t.Fatalf("after an operation that returns %d the store has %v, not %v", err, stateOf(s), after)
			}
		}
		if crashes == 0 {
			t.Errorf("there were no crashes with the seed %d", seed)
		}
	}
}

func TestP56_3Reopened(t *testing.T) {
	r := rand.New(rand.NewSource(7))
	for range 30 {
		d, s := opened(t, 201, full())
		want := full()
		for range 20 {
			if r.Intn(5) == 0 {
				s.Compact()
				continue
			}
			l := randomChanges(r)
			next, err := change.Apply(want, l)
			if got := s.Commit(l); got != err && got != api.ErrFull {
				t.Fatalf("Commit(%v) returns %d, not %d", l, got, err)
			} else if got == api.OK {
				want = next
			}
			if !data.Same(s.Data(), want) || !data.Same(open(t, d).Data(), want) {
				t.Fatalf("the dataset is %v, not %v", s.Data(), want)
			}
		}
	}
}

func TestP56_Aliasing(t *testing.T) {
	first := full()
	d, s := opened(t, 99, first)
	spare := []api.Change{putWay(8, 1, 2), {Op: api.OpPut, Kind: api.KRel, Rel: api.Rel{ID: 3, Members: []api.Member{{Ref: api.Ref{Kind: api.KNode, ID: 1}}}}}, putNode(77)}
	spare[0].Way.Tags = []api.Tag{{Key: "k", Val: "v"}}
	saved := []api.Change{putWay(8, 1, 2), spare[1], putNode(77)}
	saved[0].Way.Tags = []api.Tag{{Key: "k", Val: "v"}}
	saved[1].Rel.Members = slices.Clone(saved[1].Rel.Members)
	commit(t, s, spare[:2]...)
	if !sameChanges(spare, saved) || !data.Same(first, full()) {
		t.Error("an argument is changed")
	}
	want := mustApply(t, full(), saved[:2])
	spoil := func(x api.Data) {
		for i := range x.Nodes {
			clear(x.Nodes[i].Tags)
		}
		for i := range x.Ways {
			clear(x.Ways[i].Nodes)
			clear(x.Ways[i].Tags)
		}
		for i := range x.Rels {
			clear(x.Rels[i].Members)
			clear(x.Rels[i].Tags)
		}
		clear(x.Nodes)
		clear(x.Ways)
		clear(x.Rels)
	}
	spoil(first)
	spoil(s.Data())
	for _, c := range spare {
		spoil(objectOf(c))
	}
	l, _ := s.Since(0)
	for _, c := range l {
		spoil(objectOf(c))
	}
	clear(l)
	if l, _ = s.Since(0); !data.Same(s.Data(), want) || !sameChanges(l, saved[:2]) {
		t.Error("the store shares memory with an argument or a result")
	}
	commit(t, s, putNode(50))
	if !data.Same(open(t, d).Data(), mustApply(t, want, []api.Change{putNode(50)})) {
		t.Error("the device keeps something else")
	}
}
