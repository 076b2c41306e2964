package change

import (
	"cmp"
	"math"
	"math/rand"
	"reflect"
	"slices"
	"strconv"
	"strings"
	"testing"

	"mapmaker/api"
	"mapmaker/data"
)

func ref(kind, id int) api.Ref { return api.Ref{Kind: kind, ID: id} }

func putNode(n api.Node) api.Change { return api.Change{Op: api.OpPut, Kind: api.KNode, Node: n} }
func putWay(w api.Way) api.Change   { return api.Change{Op: api.OpPut, Kind: api.KWay, Way: w} }
func putRel(r api.Rel) api.Change   { return api.Change{Op: api.OpPut, Kind: api.KRel, Rel: r} }

// remove returns the deletion of an object.
func remove(kind, id int) api.Change {
	c := api.Change{Op: api.OpDelete, Kind: kind}
	switch kind {
	case api.KNode:
		c.Node.ID = id
	case api.KWay:
		c.Way.ID = id
	case api.KRel:
		c.Rel.ID = id
	}
	return c
}

// sample returns a valid dataset.
func sample() api.Data {
	return api.Data{
		Nodes: []api.Node{{ID: 1, Tags: []api.Tag{{Key: "a", Val: "1"}}}, {ID: 3, At: api.Coord{Lon: 7, Lat: 8}}, {ID: 5}},
		Ways:  []api.Way{{ID: 2, Nodes: []int{1, 3}, Tags: []api.Tag{{Key: "highway", Val: "track"}}}, {ID: 4, Nodes: []int{3, 1, 3}}},
		Rels:  []api.Rel{{ID: 6, Members: []api.Member{{Ref: ref(api.KWay, 4), Role: "outer"}}, Tags: []api.Tag{{Key: "type", Val: "route"}}}, {ID: 8}},
	}
}

// deepCopy returns a dataset that shares no memory with d.
func deepCopy(d api.Data) (out api.Data) {
	for _, n := range d.Nodes {
		n.Tags = slices.Clone(n.Tags)
		out.Nodes = append(out.Nodes, n)
	}
	for _, w := range d.Ways {
		w.Nodes, w.Tags = slices.Clone(w.Nodes), slices.Clone(w.Tags)
		out.Ways = append(out.Ways, w)
	}
	for _, r := range d.Rels {
		r.Members, r.Tags = slices.Clone(r.Members), slices.Clone(r.Tags)
		out.Rels = append(out.Rels, r)
	}
	return out
}

func sameChange(a, b api.Change) bool {
	return a.Op == b.Op && a.Kind == b.Kind && data.Same(api.Data{Nodes: []api.Node{a.Node}, Ways: []api.Way{a.Way}, Rels: []api.Rel{a.Rel}}, api.Data{Nodes: []api.Node{b.Node}, Ways: []api.Way{b.Way}, Rels: []api.Rel{b.Rel}})
}

func TestP15_1Check(t *testing.T) {
	for _, op := range []int{-1, 0, 1, 2, 3, math.MinInt, math.MaxInt} {
		for _, kind := range []int{-1, 0, 1, 2, 3, 4, math.MinInt, math.MaxInt} {
			c := api.Change{Op: op, Kind: kind, Node: api.Node{ID: 10}, Way: api.Way{ID: 20}, Rel: api.Rel{ID: 30}}
			want, wantRef := api.ErrArg, api.Ref{}
			if op >= 1 && op <= 2 && kind >= 1 && kind <= 3 {
				want, wantRef = api.OK, ref(kind, 10*kind)
			}
			if err := Check(c); err != want {
				t.Errorf("Check of operation %d, kind %d is %d, not %d", op, kind, err, want)
			}
			if r := Ref(c); r != wantRef {
				t.Errorf("Ref of operation %d, kind %d is %v, not %v", op, kind, r, wantRef)
			}
		}
	}
	// The object itself is not checked.
	if Check(putNode(api.Node{ID: -1})) != api.OK || Ref(putNode(api.Node{ID: -1})) != ref(api.KNode, -1) || Ref(remove(api.KRel, 0)) != ref(api.KRel, 0) {
		t.Error("a change of an object out of range")
	}
}

func TestP15_2Apply(t *testing.T) {
	d := sample()
	n1 := api.Node{ID: 1, At: api.Coord{Lon: 5}}
	n2 := api.Node{ID: 2, Tags: []api.Tag{{Key: "place", Val: "town"}}}
	w4 := api.Way{ID: 4, Nodes: []int{2, 3}}
	r7 := api.Rel{ID: 7, Members: []api.Member{{Ref: ref(api.KNode, 2)}, {Ref: ref(api.KWay, 4), Role: "x"}}}
	for i, y := range []struct {
		l    []api.Change
		want api.Data
	}{
		{nil, d},
		{[]api.Change{putNode(n1)}, api.Data{Nodes: []api.Node{n1, d.Nodes[1], d.Nodes[2]}, Ways: d.Ways, Rels: d.Rels}},
		{[]api.Change{putNode(n2)}, api.Data{Nodes: []api.Node{d.Nodes[0], n2, d.Nodes[1], d.Nodes[2]}, Ways: d.Ways, Rels: d.Rels}},
		{[]api.Change{remove(api.KNode, 5)}, api.Data{Nodes: d.Nodes[:2], Ways: d.Ways, Rels: d.Rels}},
		{[]api.Change{remove(api.KWay, 2)}, api.Data{Nodes: d.Nodes, Ways: d.Ways[1:], Rels: d.Rels}},
		{[]api.Change{remove(api.KRel, 6)}, api.Data{Nodes: d.Nodes, Ways: d.Ways, Rels: d.Rels[1:]}},
		// References to objects that come later.
		{[]api.Change{putRel(r7), putWay(w4), putNode(n2)}, api.Data{Nodes: []api.Node{d.Nodes[0], n2, d.Nodes[1], d.Nodes[2]}, Ways: []api.Way{d.Ways[0], w4}, Rels: []api.Rel{d.Rels[0], r7, d.Rels[1]}}},
		// The same object more than once.
		{[]api.Change{putNode(n2), putNode(api.Node{ID: 2}), remove(api.KNode, 2)}, d},
		{[]api.Change{remove(api.KNode, 1), putNode(n1)}, api.Data{Nodes: []api.Node{n1, d.Nodes[1], d.Nodes[2]}, Ways: d.Ways, Rels: d.Rels}},
		// An object with an ID out of range that does not stay.
		{[]api.Change{putNode(api.Node{ID: -1}), remove(api.KNode, -1), putWay(api.Way{ID: math.MaxInt}), remove(api.KWay, math.MaxInt)}, d},
		// Only the ID of a deletion counts.
		{[]api.Change{{Op: api.OpDelete, Kind: api.KNode, Node: api.Node{ID: 5, At: api.Coord{Lon: math.MaxInt}, Tags: []api.Tag{{}}}, Way: api.Way{ID: 77}}}, api.Data{Nodes: d.Nodes[:2], Ways: d.Ways, Rels: d.Rels}},
		// Only the object of the kind counts.
		{[]api.Change{{Op: api.OpPut, Kind: api.KRel, Rel: api.Rel{ID: 6}, Node: n1, Way: w4}}, api.Data{Nodes: d.Nodes, Ways: d.Ways, Rels: []api.Rel{{ID: 6}, {ID: 8}}}},
		{[]api.Change{remove(api.KRel, 6), remove(api.KRel, 8), remove(api.KWay, 2), remove(api.KWay, 4), remove(api.KNode, 1), remove(api.KNode, 3), remove(api.KNode, 5)}, api.Data{}},
	} {
		x, err := Apply(d, y.l)
		if err != api.OK || !data.Same(x, y.want) {
			t.Errorf("%d: Apply is %v, %d, not %v", i, x, err, y.want)
		}
	}
	if !data.Same(d, sample()) {
		t.Error("the dataset has changed")
	}
}

func TestP15_2Example(t *testing.T) {
	d := api.Data{Nodes: []api.Node{{ID: 1}, {ID: 2}}, Ways: []api.Way{{ID: 1, Nodes: []int{1, 2}}}}
	node, way := remove(api.KNode, 1), remove(api.KWay, 1)
	if x, err := Apply(d, []api.Change{node}); err != api.ErrRef || !reflect.DeepEqual(x, api.Data{}) {
		t.Errorf("deleting a node in use is %v, %d", x, err)
	}
	want := api.Data{Nodes: []api.Node{{ID: 2}}}
	for _, l := range [][]api.Change{{node, way}, {way, node}} {
		if x, err := Apply(d, l); err != api.OK || !data.Same(x, want) {
			t.Errorf("deleting the node and the way is %v, %d", x, err)
		}
	}
}

func TestP15_2Errors(t *testing.T) {
	d := sample()
	bad := sample()
	bad.Nodes[0].At.Lat = api.MaxLat + 1
	most := slices.Repeat([]api.Change{putNode(api.Node{ID: 9})}, api.MaxObject)
	full := api.Data{}
	for i := range api.MaxObject {
		full.Nodes = append(full.Nodes, api.Node{ID: i + 1})
	}
	none, arg := remove(api.KNode, 2), api.Change{Op: 3, Kind: api.KNode}
	for i, y := range []struct {
		d    api.Data
		l    []api.Change
		want api.Errno
	}{
		{bad, nil, api.ErrCoord},
		{bad, []api.Change{putNode(api.Node{ID: 1})}, api.ErrCoord},
		{d, most, api.OK},
		{d, append(slices.Clone(most), putNode(api.Node{ID: 9})), api.ErrLong},
		{d, []api.Change{arg}, api.ErrArg},
		{d, []api.Change{{Op: api.OpDelete, Kind: 4}}, api.ErrArg},
		{d, []api.Change{{}}, api.ErrArg},
		{d, []api.Change{none}, api.ErrNone},
		{d, []api.Change{remove(api.KWay, 1)}, api.ErrNone},
		{d, []api.Change{remove(api.KRel, 2)}, api.ErrNone},
		{d, []api.Change{remove(api.KNode, 0)}, api.ErrNone},
		{d, []api.Change{remove(api.KNode, 5), remove(api.KNode, 5)}, api.ErrNone},
		{d, []api.Change{remove(api.KRel, math.MinInt)}, api.ErrNone},
		{d, []api.Change{putNode(api.Node{ID: 0})}, api.ErrRange},
		{d, []api.Change{putNode(api.Node{ID: -1})}, api.ErrRange},
		{d, []api.Change{putNode(api.Node{ID: api.MaxID + 1})}, api.ErrRange},
		{d, []api.Change{putWay(api.Way{ID: 0, Nodes: []int{1, 3}})}, api.ErrRange},
		{d, []api.Change{putRel(api.Rel{ID: api.MaxID + 1})}, api.ErrRange},
		{d, []api.Change{putNode(api.Node{ID: 1, At: api.Coord{Lon: api.MaxLon + 1}})}, api.ErrCoord},
		{d, []api.Change{putNode(api.Node{ID: 1, Tags: []api.Tag{{Key: "b"}, {Key: "a"}}})}, data.Check(api.Data{Nodes: []api.Node{{ID: 1, Tags: []api.Tag{{Key: "b"}, {Key: "a"}}}}})},
		{d, []api.Change{putWay(api.Way{ID: 9, Nodes: []int{1}})}, api.ErrShort},
		{d, []api.Change{putWay(api.Way{ID: 9, Nodes: []int{1, 2}})}, api.ErrRef},
		{d, []api.Change{putRel(api.Rel{ID: 9, Members: []api.Member{{Ref: ref(api.KRel, 8)}}})}, api.ErrRef},
		{d, []api.Change{putRel(api.Rel{ID: 9, Members: []api.Member{{Ref: ref(api.KNode, 1), Role: strings.Repeat("r", 65)}}})}, api.ErrLong},
		{full, []api.Change{putNode(api.Node{ID: api.MaxObject + 1})}, api.ErrLong},
		{full, []api.Change{putNode(api.Node{ID: api.MaxObject + 1}), remove(api.KNode, 1)}, api.OK},
		// The dataset, the length, the changes in order, the result.
		{bad, most[:1], api.ErrCoord},
		{bad, append(slices.Clone(most), arg), api.ErrCoord},
		{d, append([]api.Change{arg}, most...), api.ErrLong},
		{d, []api.Change{none, arg}, api.ErrNone},
		{d, []api.Change{arg, none}, api.ErrArg},
		{d, []api.Change{{Op: api.OpDelete, Kind: 0, Node: api.Node{ID: 2}}}, api.ErrArg},
		{d, []api.Change{putNode(api.Node{ID: 0}), none}, api.ErrNone},
		{d, []api.Change{putNode(api.Node{ID: 0}), arg}, api.ErrArg},
		{d, []api.Change{putWay(api.Way{ID: 9}), putNode(api.Node{ID: 0})}, api.ErrRange},
	} {
		x, err := Apply(y.d, y.l)
		if err != y.want {
			t.Errorf("%d: Apply is %d, not %d", i, err, y.want)
		}
		if err != api.OK && !reflect.DeepEqual(x, api.Data{}) {
			t.Errorf("%d: Apply has a result and an error", i)
		}
		l, err := Invert(y.d, y.l)
		if err != y.want || err != api.OK && l != nil {
			t.Errorf("%d: Invert is %v, %d, not %d", i, l, err, y.want)
		}
	}
}

// numbered returns a few IDs in increasing order.
func numbered(r *rand.Rand) (out []int) {
	for id := 1; id <= 5; id++ {
		if r.Intn(3) > 0 {
			out = append(out, id)
		}
	}
	return out
}

func someTags(r *rand.Rand) []api.Tag {
	if r.Intn(2) == 0 {
		return nil
	}
	return []api.Tag{{Key: "a", Val: strconv.Itoa(r.Intn(2))}}
}

// random returns a valid dataset of a few objects.
func random(r *rand.Rand) (d api.Data) {
	nodes, ways := append(numbered(r), 6), numbered(r)
	for _, id := range nodes {
		d.Nodes = append(d.Nodes, api.Node{ID: id, At: api.Coord{Lon: r.Intn(2)}, Tags: someTags(r)})
	}
	for _, id := range ways {
		d.Ways = append(d.Ways, api.Way{ID: id, Nodes: []int{nodes[r.Intn(len(nodes))], nodes[r.Intn(len(nodes))]}, Tags: someTags(r)})
	}
	for _, id := range numbered(r) {
		x := api.Rel{ID: id, Tags: someTags(r)}
		for range r.Intn(3) {
			m := ref(api.KNode, nodes[r.Intn(len(nodes))])
			if len(ways) > 0 && r.Intn(2) == 0 {
				m = ref(api.KWay, ways[r.Intn(len(ways))])
			}
			x.Members = append(x.Members, api.Member{Ref: m, Role: []string{"", "outer"}[r.Intn(2)]})
		}
		d.Rels = append(d.Rels, x)
	}
	return d
}

// randomChange returns a change that often fails.
func randomChange(r *rand.Rand) api.Change {
	kind, id := 1+r.Intn(3), r.Intn(7)
	if r.Intn(2) == 0 {
		return remove(kind, id)
	}
	switch kind {
	case api.KNode:
		return putNode(api.Node{ID: id, At: api.Coord{Lon: r.Intn(2)}, Tags: someTags(r)})
	case api.KWay:
		return putWay(api.Way{ID: id, Nodes: []int{1 + r.Intn(6), 6}, Tags: someTags(r)})
	}
	return putRel(api.Rel{ID: id, Members: []api.Member{{Ref: ref(1+r.Intn(2), 1+r.Intn(6))}}, Tags: someTags(r)})
}

// edit returns the list without the object with that ID, and with x, if any, where it belongs.
func edit[T any](l []T, id func(T) int, gone int, x ...T) []T {
	l = slices.DeleteFunc(slices.Clone(l), func(y T) bool { return id(y) == gone })
	l = append(l, x...)
	slices.SortFunc(l, func(a, b T) int { return cmp.Compare(id(a), id(b)) })
	return l
}

// apply applies a change file to the lists of a dataset, change by change.
func apply(d api.Data, l []api.Change) (api.Data, api.Errno) {
	if err := data.Check(d); err != api.OK {
		return api.Data{}, err
	}
	node, way, rel := func(n api.Node) int { return n.ID }, func(w api.Way) int { return w.ID }, func(r api.Rel) int { return r.ID }
	for _, c := range l {
		if c.Op == api.OpDelete {
			if !data.Has(d, Ref(c)) {
				return api.Data{}, api.ErrNone
			}
			switch c.Kind {
			case api.KNode:
				d.Nodes = edit(d.Nodes, node, c.Node.ID)
			case api.KWay:
				d.Ways = edit(d.Ways, way, c.Way.ID)
			case api.KRel:
				d.Rels = edit(d.Rels, rel, c.Rel.ID)
			}
			continue
		}
		switch c.Kind {
		case api.KNode:
			d.Nodes = edit(d.Nodes, node, c.Node.ID, c.Node)
		case api.KWay:
			d.Ways = edit(d.Ways, way, c.Way.ID, c.Way)
		case api.KRel:
			d.Rels = edit(d.Rels, rel, c.Rel.ID, c.Rel)
		}
	}
	if err := data.Check(d); err != api.OK {
		return api.Data{}, err
	}
	return d, api.OK
}

func TestP15_2Random(t *testing.T) {
	r := rand.New(rand.NewSource(1))
	good := 0
	for range 20000 {
		d := random(r)
		var l []api.Change
		for range r.Intn(5) {
			l = append(l, randomChange(r))
		}
		x, err := Apply(d, l)
		want, wantErr := apply(d, l)
		if err != wantErr || !data.Same(x, want) {
			t.Fatalf("Apply(%v, %v) is %v, %d, not %v, %d", d, l, x, err, want, wantErr)
		}
		if err == api.OK && len(l) > 0 {
			good++
		}
	}
	if good < 1000 {
		t.Errorf("only %d change files were applied", good)
	}
}

func TestP15_3Diff(t *testing.T) {
	a := sample()
	b := api.Data{
		Nodes: []api.Node{{ID: 1, Tags: []api.Tag{{Key: "a", Val: "1"}}}, {ID: 2}, {ID: 3, At: api.Coord{Lon: 7, Lat: 9}}, {ID: 9}},
		Ways:  []api.Way{{ID: 1, Nodes: []int{1, 2}}, {ID: 4, Nodes: []int{3, 1, 1}}},
		Rels:  []api.Rel{{ID: 3}, {ID: 8, Members: []api.Member{{Ref: ref(api.KNode, 1)}}}},
	}
	want := []api.Change{
		remove(api.KRel, 6), remove(api.KWay, 2), remove(api.KNode, 5),
		putNode(b.Nodes[1]), putNode(b.Nodes[2]), putNode(b.Nodes[3]), putWay(b.Ways[0]), putWay(b.Ways[1]), putRel(b.Rels[0]), putRel(b.Rels[1]),
	}
	if l := Diff(a, b); !slices.EqualFunc(l, want, sameChange) {
		t.Errorf("Diff is %v, not %v", l, want)
	}
	refs := []api.Ref{ref(1, 2), ref(1, 3), ref(1, 5), ref(1, 9), ref(2, 1), ref(2, 2), ref(2, 4), ref(3, 3), ref(3, 6), ref(3, 8)}
	if l := Touched(a, b); !slices.Equal(l, refs) {
		t.Errorf("Touched is %v, not %v", l, refs)
	}
	all := []api.Change{remove(api.KRel, 6), remove(api.KRel, 8), remove(api.KWay, 2), remove(api.KWay, 4), remove(api.KNode, 1), remove(api.KNode, 3), remove(api.KNode, 5)}
	if l := Diff(a, api.Data{}); !slices.EqualFunc(l, all, sameChange) {
		t.Errorf("Diff to the empty dataset is %v", l)
	}
	if l := Diff(a, sample()); len(l) != 0 {
		t.Errorf("Diff of equal datasets is %v", l)
	}
}

func TestP15_3OtherFields(t *testing.T) {
	for i, y := range []struct {
		edit func(d *api.Data)
		want api.Ref
	}{
		{func(d *api.Data) { d.Nodes[0].At.Lon++ }, ref(1, 1)},
		{func(d *api.Data) { d.Nodes[0].At.Lat++ }, ref(1, 1)},
		{func(d *api.Data) { d.Nodes[0].Tags[0].Val = "2" }, ref(1, 1)},
		{func(d *api.Data) { d.Nodes[0].Tags = nil }, ref(1, 1)},
		{func(d *api.Data) { d.Ways[0].Nodes[0] = 3 }, ref(2, 2)},
		{func(d *api.Data) { d.Ways[1].Nodes = d.Ways[1].Nodes[:2] }, ref(2, 4)},
		{func(d *api.Data) { d.Ways[0].Tags[0].Key = "x" }, ref(2, 2)},
		{func(d *api.Data) { d.Rels[0].Members[0].Role = "" }, ref(3, 6)},
		{func(d *api.Data) { d.Rels[0].Members[0].Ref.ID = 2 }, ref(3, 6)},
		{func(d *api.Data) { d.Rels[0].Members[0].Ref = ref(1, 5) }, ref(3, 6)},
		{func(d *api.Data) { d.Rels[0].Members = nil }, ref(3, 6)},
		{func(d *api.Data) { d.Rels[0].Tags[0].Val = "" }, ref(3, 6)},
	} {
		a, b := sample(), sample()
		y.edit(&b)
		for _, l := range [][]api.Ref{Touched(a, b), Touched(b, a)} {
			if !slices.Equal(l, []api.Ref{y.want}) {
				t.Errorf("%d: Touched is %v, not %v", i, l, y.want)
			}
		}
		l := Diff(a, b)
		if len(l) != 1 || l[0].Op != api.OpPut || Ref(l[0]) != y.want {
			t.Errorf("%d: Diff is %v", i, l)
		}
		if x, err := Apply(a, l); err != api.OK || !data.Same(x, b) {
			t.Errorf("%d: Apply of the difference is %v, %d", i, x, err)
		}
	}
	empty := sample()
	empty.Nodes[1].Tags, empty.Ways[1].Tags, empty.Rels[1].Members, empty.Rels[1].Tags = []api.Tag{}, []api.Tag{}, []api.Member{}, []api.Tag{}
	if l := Diff(sample(), empty); len(l) != 0 {
		t.Errorf("an empty list and none differ: %v", l)
	}
}

func TestP15_3Invalid(t *testing.T) {
	bad := sample()
	bad.Nodes[1].ID = 1
	for i, y := range [][2]api.Data{{sample(), bad}, {bad, sample()}, {bad, bad}, {api.Data{}, bad}} {
		if l := Diff(y[0], y[1]); l != nil {
			t.Errorf("%d: Diff is %v, not nil", i, l)
		}
		if l := Touched(y[0], y[1]); l != nil {
			t.Errorf("%d: Touched is %v, not nil", i, l)
		}
	}
}

func TestP15_3Invert(t *testing.T) {
	d := sample()
	l := []api.Change{remove(api.KNode, 5), putNode(api.Node{ID: 2}), putNode(api.Node{ID: 3}), putWay(api.Way{ID: 2, Nodes: []int{1, 2}})}
	want := []api.Change{remove(api.KNode, 2), putNode(d.Nodes[1]), putNode(d.Nodes[2]), putWay(d.Ways[0])}
	if back, err := Invert(d, l); err != api.OK || !slices.EqualFunc(back, want, sameChange) {
		t.Errorf("Invert is %v, %d, not %v", back, err, want)
	}
	if back, err := Invert(d, nil); err != api.OK || len(back) != 0 {
		t.Errorf("Invert of no changes is %v, %d", back, err)
	}
	if back, err := Invert(d, []api.Change{remove(api.KNode, 1)}); err != api.ErrRef || back != nil {
		t.Errorf("Invert of a deletion that fails is %v, %d", back, err)
	}
}

func TestP15_4Derived(t *testing.T) {
	r := rand.New(rand.NewSource(2))
	inverted, joined := 0, 0
	for range 20000 {
		a, b := random(r), random(r)
		l := Diff(a, b)
		if x, err := Apply(a, l); err != api.OK || !data.Same(x, b) {
			t.Fatalf("Apply(%v, %v) is %v, %d, not %v", a, l, x, err, b)
		}
		refs := Touched(a, b)
		if len(refs) != len(l) || !slices.IsSortedFunc(refs, func(a, b api.Ref) int {
			return cmp.Or(cmp.Compare(a.Kind, b.Kind), cmp.Compare(a.ID, b.ID), 1)
		}) {
			t.Fatalf("Touched is %v for %v", refs, l)
		}
		first, second := []api.Change{randomChange(r), randomChange(r)}, []api.Change{randomChange(r), randomChange(r)}
		x, err := Apply(a, first)
		if err != api.OK {
			continue
		}
		back, err := Invert(a, first)
		if y, again := Apply(x, back); err != api.OK || again != api.OK || !data.Same(y, a) {
			t.Fatalf("after %v and its inverse %v the dataset is %v, %d", first, back, y, again)
		}
		inverted++
		if y, err := Apply(x, second); err == api.OK {
			z, err := Apply(a, slices.Concat(first, second))
			if err != api.OK || !data.Same(y, z) {
				t.Fatalf("%v and %v applied together are %v, %d, not %v", first, second, z, err, y)
			}
			joined++
		}
	}
	if inverted < 500 || joined < 50 {
		t.Errorf("only %d and %d cases", inverted, joined)
	}
}

// wreck overwrites the lists of a dataset and of its objects.
func wreck(d api.Data) {
	for _, n := range d.Nodes {
		clear(n.Tags)
	}
	for _, w := range d.Ways {
		clear(w.Nodes)
		clear(w.Tags)
	}
	for _, r := range d.Rels {
		clear(r.Members)
		clear(r.Tags)
	}
	clear(d.Nodes)
	clear(d.Ways)
	clear(d.Rels)
}

// whole returns the objects of changes as a dataset.
func whole(l []api.Change) (d api.Data) {
	for _, c := range l {
		d.Nodes, d.Ways, d.Rels = append(d.Nodes, c.Node), append(d.Ways, c.Way), append(d.Rels, c.Rel)
	}
	return d
}

func TestP15_Aliasing(t *testing.T) {
	d := sample()
	changes := func() []api.Change {
		return []api.Change{
			putNode(api.Node{ID: 1, Tags: []api.Tag{{Key: "b"}}}), putWay(api.Way{ID: 7, Nodes: []int{1, 3}, Tags: []api.Tag{{Key: "c"}}}),
			putRel(api.Rel{ID: 9, Members: []api.Member{{Ref: ref(1, 1)}}, Tags: []api.Tag{{Key: "d"}}}),
		}
	}
	l := changes()
	x, _ := Apply(d, l)
	diff, back := Diff(api.Data{}, d), Diff(x, d)
	wreck(x)
	wreck(whole(diff))
	wreck(whole(back))
	if !data.Same(d, sample()) || !slices.EqualFunc(l, changes(), sameChange) {
		t.Error("a result shares memory with an argument")
	}
	// One list in two changes, and in an object that is put twice.
	tags := []api.Tag{{Key: "a", Val: "1"}}
	x, _ = Apply(api.Data{}, []api.Change{putNode(api.Node{ID: 1, Tags: tags}), putNode(api.Node{ID: 2, Tags: tags})})
	x.Nodes[0].Tags[0].Val = "2"
	if x.Nodes[1].Tags[0].Val != "1" || tags[0].Val != "1" {
		t.Error("objects of a result share memory")
	}
	before := deepCopy(d)
	Touched(d, api.Data{})
	Invert(d, l)
	if !data.Same(d, before) || !slices.EqualFunc(l, changes(), sameChange) {
		t.Error("the arguments have changed")
	}
}
