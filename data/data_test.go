package data

import (
	"fmt"
	"math"
	"math/rand"
	"reflect"
	"slices"
	"strings"
	"testing"

	"mapmaker/api"
)

func node(id int) api.Ref { return api.Ref{Kind: api.KNode, ID: id} }
func way(id int) api.Ref  { return api.Ref{Kind: api.KWay, ID: id} }
func rel(id int) api.Ref  { return api.Ref{Kind: api.KRel, ID: id} }

// sample returns a valid dataset in which node 9 and way 8 have no users.
func sample() api.Data {
	return api.Data{
		Nodes: []api.Node{
			{ID: 1, At: api.Coord{Lon: -api.MaxLon, Lat: -api.MaxLat}},
			{ID: 4, At: api.Coord{Lon: api.MaxLon, Lat: api.MaxLat}, Tags: []api.Tag{{Key: "a", Val: "1"}, {Key: "b"}}},
			{ID: 9},
			{ID: api.MaxID, Tags: []api.Tag{{Key: "name", Val: "last"}}},
		},
		Ways: []api.Way{
			{ID: 2, Nodes: []int{4, 1, 4}, Tags: []api.Tag{{Key: "highway", Val: "track"}}},
			{ID: 8, Nodes: []int{1, api.MaxID}},
			{ID: api.MaxID, Nodes: []int{1, 1}},
		},
		Rels: []api.Rel{
			{ID: 1, Members: []api.Member{{Ref: way(2), Role: "outer"}, {Ref: node(4)}, {Ref: way(2)}}, Tags: []api.Tag{{Key: "type", Val: "route"}}},
			{ID: 3},
			{ID: api.MaxID, Members: []api.Member{{Ref: way(api.MaxID), Role: strings.Repeat("r", api.MaxText)}}},
		},
	}
}

// deepCopy returns a dataset that shares no memory with d.
func deepCopy(d api.Data) api.Data {
	out := api.Data{Nodes: slices.Clone(d.Nodes), Ways: slices.Clone(d.Ways), Rels: slices.Clone(d.Rels)}
	for i := range out.Nodes {
		out.Nodes[i].Tags = slices.Clone(out.Nodes[i].Tags)
	}
	for i := range out.Ways {
		out.Ways[i].Nodes, out.Ways[i].Tags = slices.Clone(out.Ways[i].Nodes), slices.Clone(out.Ways[i].Tags)
	}
	for i := range out.Rels {
		out.Rels[i].Members, out.Rels[i].Tags = slices.Clone(out.Rels[i].Members), slices.Clone(out.Rels[i].Tags)
	}
	return out
}

func TestP14_1Valid(t *testing.T) {
	ids := make([]int, api.MaxPoints)
	members := make([]api.Member, api.MaxMember)
	tags := make([]api.Tag, api.MaxTags)
	for i := range ids {
		ids[i] = 1 + i%2
	}
	for i := range members {
		members[i].Ref = node(1)
	}
	for i := range tags {
		tags[i].Key = string(rune('a' + i))
	}
	full := api.Data{
		Nodes: []api.Node{{ID: 1, Tags: tags}, {ID: 2}},
		Ways:  []api.Way{{ID: 1, Nodes: ids, Tags: tags}},
		Rels:  []api.Rel{{ID: 1, Members: members, Tags: tags}},
	}
	for _, d := range []api.Data{{}, sample(), {Nodes: []api.Node{}, Ways: []api.Way{}, Rels: []api.Rel{}}, {Rels: []api.Rel{{ID: 1}}}, full} {
		if err := Check(d); err != api.OK {
			t.Errorf("Check of a valid dataset is %d", err)
		}
	}
}

// flaw is a change that makes a valid dataset invalid.
type flaw struct {
	name  string
	err   api.Errno
	spoil func(d *api.Data)
}

// flaws has the flaws of the second object of each list, in the order in which Check finds them.
func flaws() []flaw {
	badTags := []api.Tag{{}}
	return []flaw{
		{"node ID", api.ErrRange, func(d *api.Data) { d.Nodes[1].ID = 0 }},
		{"node order", api.ErrOrder, func(d *api.Data) { d.Nodes[1].ID = 1 }},
		{"node position", api.ErrCoord, func(d *api.Data) { d.Nodes[1].At.Lon = api.MaxLon + 1 }},
		{"node tags", api.ErrTag, func(d *api.Data) { d.Nodes[1].Tags = badTags }},
		{"way ID", api.ErrRange, func(d *api.Data) { d.Ways[1].ID = -1 }},
		{"way order", api.ErrOrder, func(d *api.Data) { d.Ways[1].ID = 2 }},
		{"way short", api.ErrShort, func(d *api.Data) { d.Ways[1].Nodes = []int{77} }},
		{"way long", api.ErrLong, func(d *api.Data) { d.Ways[1].Nodes = make([]int, api.MaxPoints+1) }},
		{"way node", api.ErrRef, func(d *api.Data) { d.Ways[1].Nodes = []int{1, 2} }},
		{"way tags", api.ErrTag, func(d *api.Data) { d.Ways[1].Tags = badTags }},
		{"relation ID", api.ErrRange, func(d *api.Data) { d.Rels[1].ID = api.MaxID + 1 }},
		{"relation order", api.ErrOrder, func(d *api.Data) { d.Rels[1].ID = 1 }},
		{"relation long", api.ErrLong, func(d *api.Data) { d.Rels[1].Members = make([]api.Member, api.MaxMember+1) }},
		{"relation member", api.ErrRef, func(d *api.Data) { d.Rels[1].Members = []api.Member{{Ref: rel(1)}} }},
		{"relation tags", api.ErrTag, func(d *api.Data) { d.Rels[1].Tags = badTags }},
	}
}

func TestP14_1FirstError(t *testing.T) {
	l := flaws()
	for i, first := range l {
		d := sample()
		first.spoil(&d)
		if err := Check(d); err != first.err {
			t.Errorf("%s: Check is %d, not %d", first.name, err, first.err)
		}
		for _, second := range l[i+1:] {
			d := sample()
			// The second one first, because the first one may replace the same field: then it alone remains.
			second.spoil(&d)
			first.spoil(&d)
			if err := Check(d); err != first.err {
				t.Errorf("%s and %s: Check is %d, not %d", first.name, second.name, err, first.err)
			}
		}
	}
}

// An error of an object comes before those of the objects after it, whatever they are.
func TestP14_1FirstObject(t *testing.T) {
	d := sample()
	d.Nodes[0].Tags = []api.Tag{{}}
	d.Nodes[1].ID = 0
	if err := Check(d); err != api.ErrTag {
		t.Errorf("Check of nodes is %d", err)
	}
	d = sample()
	d.Ways[0].Tags = []api.Tag{{}}
	d.Ways[1].ID = 0
	if err := Check(d); err != api.ErrTag {
		t.Errorf("Check of ways is %d", err)
	}
	d = sample()
	d.Rels[0].Tags = []api.Tag{{}}
	d.Rels[1].ID = 0
	if err := Check(d); err != api.ErrTag {
		t.Errorf("Check of relations is %d", err)
	}
}

// many returns a list of n nodes, ways or relations that are valid but for their number.
func many(n int) (d api.Data) {
	for i := range n {
		d.Nodes = append(d.Nodes, api.Node{ID: i + 1})
		d.Ways = append(d.Ways, api.Way{ID: i + 1, Nodes: []int{1, i + 1}})
		d.Rels = append(d.Rels, api.Rel{ID: i + 1, Members: []api.Member{{Ref: way(i + 1)}}})
	}
	return d
}

func TestP14_1Long(t *testing.T) {
	most, over := many(api.MaxObject), many(api.MaxObject+1)
	if err := Check(most); err != api.OK {
		t.Errorf("Check of full lists is %d", err)
	}
	bad := api.Node{ID: -1}
	for _, d := range []api.Data{
		{Nodes: over.Nodes}, {Nodes: most.Nodes, Ways: over.Ways}, {Nodes: most.Nodes, Ways: most.Ways, Rels: over.Rels},
		{Nodes: append([]api.Node{bad}, over.Nodes...)}, {Nodes: []api.Node{bad}, Ways: over.Ways}, {Nodes: []api.Node{bad}, Rels: over.Rels},
	} {
		if err := Check(d); err != api.ErrLong {
			t.Errorf("Check of too long a list is %d", err)
		}
	}
}

func TestP14_1IDs(t *testing.T) {
	for _, y := range []struct {
		ids []int
		err api.Errno
	}{
		{[]int{0}, api.ErrRange}, {[]int{-1}, api.ErrRange}, {[]int{api.MaxID + 1}, api.ErrRange}, {[]int{math.MinInt}, api.ErrRange}, {[]int{math.MaxInt}, api.ErrRange},
		{[]int{5, 5}, api.ErrOrder}, {[]int{5, 4}, api.ErrOrder}, {[]int{5, 0}, api.ErrRange}, {[]int{1, 3, 2}, api.ErrOrder}, {[]int{1, 3, 3}, api.ErrOrder},
		{[]int{1}, api.OK}, {[]int{api.MaxID}, api.OK}, {[]int{1, 2, api.MaxID}, api.OK},
	} {
		var nodes, ways, rels api.Data
		ways.Nodes = []api.Node{{ID: 6}}
		for _, id := range y.ids {
			nodes.Nodes = append(nodes.Nodes, api.Node{ID: id})
			ways.Ways = append(ways.Ways, api.Way{ID: id, Nodes: []int{6, 6}})
			rels.Rels = append(rels.Rels, api.Rel{ID: id})
		}
		for _, d := range []api.Data{nodes, ways, rels} {
			if err := Check(d); err != y.err {
				t.Errorf("Check with the IDs %v is %d, not %d", y.ids, err, y.err)
			}
		}
	}
}

func TestP14_1Coordinates(t *testing.T) {
	for _, at := range []api.Coord{
		{Lon: api.MaxLon + 1}, {Lon: -api.MaxLon - 1}, {Lat: api.MaxLat + 1}, {Lat: -api.MaxLat - 1},
		{Lon: math.MinInt}, {Lon: math.MaxInt}, {Lat: math.MinInt}, {Lat: math.MaxInt},
	} {
		if err := Check(api.Data{Nodes: []api.Node{{ID: 1, At: at}}}); err != api.ErrCoord {
			t.Errorf("Check with a node at %v is %d", at, err)
		}
	}
}

func TestP14_1Ways(t *testing.T) {
	long := make([]int, api.MaxPoints+1)
	for i := range long {
		long[i] = 1
	}
	for _, y := range []struct {
		nodes []int
		err   api.Errno
	}{
		{nil, api.ErrShort}, {[]int{1}, api.ErrShort}, {[]int{5}, api.ErrShort}, {long, api.ErrLong}, {long[:api.MaxPoints], api.OK},
		{[]int{1, 1}, api.OK}, {[]int{1, 2}, api.ErrRef}, {[]int{5, 1}, api.ErrRef}, {[]int{1, 3, 0}, api.ErrRef}, {[]int{3, 1}, api.OK}, {[]int{1, -1}, api.ErrRef},
	} {
		d := api.Data{Nodes: []api.Node{{ID: 1}, {ID: 3}}, Ways: []api.Way{{ID: 5, Nodes: y.nodes}}}
		if err := Check(d); err != y.err {
			t.Errorf("Check of a way with %d nodes is %d, not %d", len(y.nodes), err, y.err)
		}
	}
	// Example 1.
	if err := Check(api.Data{Nodes: []api.Node{{ID: 1}}, Ways: []api.Way{{ID: 1, Nodes: []int{1, 2}}}}); err != api.ErrRef {
		t.Errorf("Check of a way with a missing node is %d", err)
	}
}

func TestP14_1Members(t *testing.T) {
	of := func(l ...api.Ref) (out []api.Member) {
		for _, r := range l {
			out = append(out, api.Member{Ref: r})
		}
		return out
	}
	long := make([]api.Member, api.MaxMember+1)
	for i := range long {
		long[i].Ref = node(1)
	}
	for i, y := range []struct {
		members []api.Member
		err     api.Errno
	}{
		{nil, api.OK}, {of(node(1), way(5), node(3), node(1)), api.OK}, {long[:api.MaxMember], api.OK}, {long, api.ErrLong},
		{of(node(2)), api.ErrRef}, {of(node(5)), api.ErrRef}, {of(way(1)), api.ErrRef}, {of(way(6)), api.ErrRef}, {of(rel(7)), api.ErrRef}, {of(rel(5)), api.ErrRef}, {of(rel(1)), api.ErrRef},
		{of(api.Ref{Kind: 0, ID: 1}), api.ErrRef}, {of(api.Ref{Kind: 4, ID: 1}), api.ErrRef}, {of(api.Ref{Kind: -1, ID: 1}), api.ErrRef}, {of(node(1), way(5), api.Ref{}), api.ErrRef},
		{[]api.Member{{Ref: node(1), Role: strings.Repeat("x", api.MaxText)}}, api.OK},
		{[]api.Member{{Ref: node(1), Role: strings.Repeat("x", api.MaxText+1)}}, api.ErrLong},
		// A long role anywhere comes before a missing object anywhere.
		{[]api.Member{{Ref: node(9)}, {Ref: node(1), Role: strings.Repeat("x", api.MaxText+1)}}, api.ErrLong},
	} {
		d := api.Data{Nodes: []api.Node{{ID: 1}, {ID: 3}}, Ways: []api.Way{{ID: 5, Nodes: []int{1, 3}}}, Rels: []api.Rel{{ID: 7, Members: y.members}}}
		if err := Check(d); err != y.err {
			t.Errorf("%d: Check of members is %d, not %d", i, err, y.err)
		}
	}
}

func TestP14_1Tags(t *testing.T) {
	long := make([]api.Tag, api.MaxTags+1)
	for _, y := range []struct {
		tags []api.Tag
		err  api.Errno
	}{{long, api.ErrLong}, {[]api.Tag{{Key: ""}}, api.ErrTag}, {[]api.Tag{{Key: "b"}, {Key: "a"}}, api.ErrOrder}, {[]api.Tag{{Key: "a"}, {Key: "b"}}, api.OK}} {
		for i := range 3 {
			d := sample()
			switch i {
			case 0:
				d.Nodes[2].Tags = y.tags
			case 1:
				d.Ways[2].Tags = y.tags
			case 2:
				d.Rels[2].Tags = y.tags
			}
			if err := Check(d); err != y.err {
				t.Errorf("Check with tags of kind %d is %d, not %d", i+1, err, y.err)
			}
		}
	}
}

func TestP14_2Lookups(t *testing.T) {
	d := sample()
	// Objects with an ID that occurred before do not count, and the lists need not be in order.
	d.Nodes = append(d.Nodes, api.Node{ID: 4}, api.Node{ID: 3, Tags: []api.Tag{{Key: "late"}}})
	d.Ways = append(d.Ways, api.Way{ID: 2}, api.Way{ID: 1, Nodes: []int{7}, Tags: []api.Tag{{Key: "late"}}})
	d.Rels = append(d.Rels, api.Rel{ID: 1}, api.Rel{ID: 0, Members: []api.Member{{Role: "x"}}, Tags: []api.Tag{{Key: "late"}}})
	for i, want := range d.Nodes {
		n, ok := Node(d, want.ID)
		if i != 4 && (!ok || !sameNode(n, want)) || i == 4 && (!ok || !sameNode(n, d.Nodes[1])) {
			t.Errorf("Node(%d) is %v, %v", want.ID, n, ok)
		}
		if !Has(d, node(want.ID)) || !slices.Equal(Tags(d, node(want.ID)), n.Tags) {
			t.Errorf("Has or Tags of node %d", want.ID)
		}
	}
	for i, want := range d.Ways {
		w, ok := Way(d, want.ID)
		if i != 3 && (!ok || !sameWay(w, want)) || i == 3 && (!ok || !sameWay(w, d.Ways[0])) {
			t.Errorf("Way(%d) is %v, %v", want.ID, w, ok)
		}
		if !Has(d, way(want.ID)) || !slices.Equal(Tags(d, way(want.ID)), w.Tags) {
			t.Errorf("Has or Tags of way %d", want.ID)
		}
	}
	for i, want := range d.Rels {
		r, ok := Rel(d, want.ID)
		if i != 3 && (!ok || !sameRel(r, want)) || i == 3 && (!ok || !sameRel(r, d.Rels[0])) {
			t.Errorf("Rel(%d) is %v, %v", want.ID, r, ok)
		}
		if !Has(d, rel(want.ID)) || !slices.Equal(Tags(d, rel(want.ID)), r.Tags) {
			t.Errorf("Has or Tags of relation %d", want.ID)
		}
	}
}

func TestP14_2Missing(t *testing.T) {
	d := sample()
	for _, id := range []int{0, 5, -1, math.MaxInt, math.MinInt} {
		if n, ok := Node(d, id); ok || !reflect.DeepEqual(n, api.Node{}) {
			t.Errorf("Node(%d) is %v, %v", id, n, ok)
		}
		if w, ok := Way(d, id); ok || !reflect.DeepEqual(w, api.Way{}) {
			t.Errorf("Way(%d) is %v, %v", id, w, ok)
		}
		if r, ok := Rel(d, id); ok || !reflect.DeepEqual(r, api.Rel{}) {
			t.Errorf("Rel(%d) is %v, %v", id, r, ok)
		}
	}
	for _, r := range []api.Ref{{}, {Kind: 0, ID: 1}, {Kind: 4, ID: 1}, {Kind: -1, ID: 1}, node(2), node(8), way(1), way(4), rel(2), rel(9), {Kind: math.MaxInt, ID: 1}} {
		if Has(d, r) || Tags(d, r) != nil {
			t.Errorf("Has(%v) is %v, Tags %v", r, Has(d, r), Tags(d, r))
		}
	}
	if Has(api.Data{}, node(0)) || len(Refs(api.Data{})) != 0 || len(Users(api.Data{}, node(1))) != 0 {
		t.Error("an empty dataset has objects")
	}
}

func TestP14_2Users(t *testing.T) {
	d := sample()
	d.Rels[1].Members = []api.Member{{Ref: rel(1)}, {Ref: api.Ref{Kind: 9, ID: 9}}}
	for _, y := range []struct {
		r    api.Ref
		want []api.Ref
	}{
		{node(1), []api.Ref{way(2), way(8), way(api.MaxID)}},
		{node(4), []api.Ref{way(2), rel(1)}},
		{node(9), nil}, {node(2), nil}, {node(8), nil}, {way(8), nil}, {way(1), nil}, {way(4), nil},
		{way(2), []api.Ref{rel(1)}}, {way(api.MaxID), []api.Ref{rel(api.MaxID)}}, {node(api.MaxID), []api.Ref{way(8)}},
		{rel(1), []api.Ref{rel(3)}}, {rel(4), nil}, {api.Ref{Kind: 9, ID: 9}, []api.Ref{rel(3)}}, {api.Ref{}, nil}, {api.Ref{Kind: 0, ID: 4}, nil},
	} {
		if got := Users(d, y.r); !slices.Equal(got, y.want) {
			t.Errorf("Users(%v) is %v, not %v", y.r, got, y.want)
		}
	}
}

// The users are in order, each once, even if the lists are not; and the object need not exist.
func TestP14_2UsersOfAnyLists(t *testing.T) {
	d := api.Data{
		Ways: []api.Way{{ID: 7, Nodes: []int{1}}, {ID: -2, Nodes: []int{3, 1}}, {ID: 7, Nodes: []int{1, 1}}, {ID: 5, Nodes: []int{2}}},
		Rels: []api.Rel{{ID: 6, Members: []api.Member{{Ref: node(1)}}}, {ID: 2, Members: []api.Member{{Ref: node(1)}, {Ref: node(1)}}}, {ID: 6, Members: []api.Member{{Ref: node(1)}}}},
	}
	want := []api.Ref{way(-2), way(7), rel(2), rel(6)}
	if got := Users(d, node(1)); !slices.Equal(got, want) {
		t.Errorf("Users is %v, not %v", got, want)
	}
}

func TestP14_2UsersInOrder(t *testing.T) {
	r := rand.New(rand.NewSource(3))
	for range 300 {
		var d api.Data
		var want []api.Ref
		for range r.Intn(20) {
			d.Ways = append(d.Ways, api.Way{ID: r.Intn(10) - 4, Nodes: []int{r.Intn(2)}})
			d.Rels = append(d.Rels, api.Rel{ID: r.Intn(10) - 4, Members: []api.Member{{Ref: node(r.Intn(2))}}})
		}
		for id := -4; id < 6; id++ {
			if slices.ContainsFunc(d.Ways, func(w api.Way) bool { return w.ID == id && w.Nodes[0] == 1 }) {
				want = append(want, way(id))
			}
		}
		for id := -4; id < 6; id++ {
			if slices.ContainsFunc(d.Rels, func(x api.Rel) bool { return x.ID == id && x.Members[0].Ref.ID == 1 }) {
				want = append(want, rel(id))
			}
		}
		if got := Users(d, node(1)); !slices.Equal(got, want) {
			t.Fatalf("Users is %v, not %v", got, want)
		}
	}
}

func TestP14_2Refs(t *testing.T) {
	d := sample()
	want := []api.Ref{node(1), node(4), node(9), node(api.MaxID), way(2), way(8), way(api.MaxID), rel(1), rel(3), rel(api.MaxID)}
	if got := Refs(d); !slices.Equal(got, want) {
		t.Errorf("Refs is %v", got)
	}
	// The order and the repetitions of the lists remain.
	d = api.Data{Nodes: []api.Node{{ID: 2}, {ID: 1}, {ID: 2}}, Ways: []api.Way{{ID: 3}, {ID: 3}}, Rels: []api.Rel{{ID: 0}, {ID: -1}}}
	want = []api.Ref{node(2), node(1), node(2), way(3), way(3), rel(0), rel(-1)}
	if got := Refs(d); !slices.Equal(got, want) {
		t.Errorf("Refs of lists without order is %v", got)
	}
}

func TestP14_2Same(t *testing.T) {
	d := sample()
	if !Same(d, sample()) || !Same(api.Data{}, api.Data{}) || !Same(api.Data{}, api.Data{Nodes: []api.Node{}, Ways: []api.Way{}, Rels: []api.Rel{}}) {
		t.Error("equal datasets are not the same")
	}
	for i, change := range []func(d *api.Data){
		func(d *api.Data) { d.Nodes[0].ID++ },
		func(d *api.Data) { d.Nodes[0].At.Lon++ },
		func(d *api.Data) { d.Nodes[3].At.Lat++ },
		func(d *api.Data) { d.Nodes[1].Tags[1].Val = "x" },
		func(d *api.Data) { d.Nodes[1].Tags[0].Key = "x" },
		func(d *api.Data) { d.Nodes[1].Tags = nil },
		func(d *api.Data) { d.Nodes = d.Nodes[:3] },
		func(d *api.Data) { d.Nodes[0], d.Nodes[1] = d.Nodes[1], d.Nodes[0] },
		func(d *api.Data) { d.Ways[0].ID++ },
		func(d *api.Data) { d.Ways[0].Nodes[2] = 1 },
		func(d *api.Data) { d.Ways[0].Nodes = d.Ways[0].Nodes[:2] },
		func(d *api.Data) { d.Ways[0].Tags[0].Val = "" },
		func(d *api.Data) { d.Ways = nil },
		func(d *api.Data) { d.Rels[0].ID = 2 },
		func(d *api.Data) { d.Rels[0].Members[0].Role = "" },
		func(d *api.Data) { d.Rels[0].Members[0].Ref.Kind = api.KNode },
		func(d *api.Data) { d.Rels[0].Members[1].Ref.ID = 1 },
		func(d *api.Data) { d.Rels[0].Members = d.Rels[0].Members[1:] },
		func(d *api.Data) { d.Rels[0].Tags[0].Key = "types" },
		func(d *api.Data) { d.Rels = d.Rels[1:] },
	} {
		other := sample()
		change(&other)
		if Same(d, other) || Same(other, d) || !Same(other, deepCopy(other)) {
			t.Errorf("%d: Same is wrong", i)
		}
	}
	empty := sample()
	empty.Nodes[0].Tags, empty.Ways[1].Tags, empty.Rels[1].Members, empty.Rels[1].Tags = []api.Tag{}, []api.Tag{}, []api.Member{}, []api.Tag{}
	if !Same(d, empty) {
		t.Error("an empty list is not the same as none")
	}
}

// random returns a valid dataset of a few objects.
func random(r *rand.Rand) (d api.Data) {
	ids := func(most int) (out []int) {
		for id := 1; id <= most; id++ {
			if r.Intn(3) > 0 {
				out = append(out, id)
			}
		}
		return out
	}
	nodes := append(ids(8), 9)
	for _, id := range nodes {
		d.Nodes = append(d.Nodes, api.Node{ID: id})
	}
	ways := ids(4)
	for _, id := range ways {
		w := api.Way{ID: id}
		for range 2 + r.Intn(3) {
			w.Nodes = append(w.Nodes, nodes[r.Intn(len(nodes))])
		}
		d.Ways = append(d.Ways, w)
	}
	for _, id := range ids(4) {
		x := api.Rel{ID: id}
		for range r.Intn(3) {
			m := node(nodes[r.Intn(len(nodes))])
			if len(ways) > 0 && r.Intn(2) == 0 {
				m = way(ways[r.Intn(len(ways))])
			}
			x.Members = append(x.Members, api.Member{Ref: m})
		}
		d.Rels = append(d.Rels, x)
	}
	return d
}

// without returns d without an object.
func without(d api.Data, r api.Ref) api.Data {
	d = deepCopy(d)
	switch r.Kind {
	case api.KNode:
		d.Nodes = slices.DeleteFunc(d.Nodes, func(n api.Node) bool { return n.ID == r.ID })
	case api.KWay:
		d.Ways = slices.DeleteFunc(d.Ways, func(w api.Way) bool { return w.ID == r.ID })
	case api.KRel:
		d.Rels = slices.DeleteFunc(d.Rels, func(x api.Rel) bool { return x.ID == r.ID })
	}
	return d
}

func TestP14_3Removing(t *testing.T) {
	r := rand.New(rand.NewSource(1))
	used, unused := 0, 0
	for range 500 {
		d := random(r)
		if err := Check(d); err != api.OK {
			t.Fatal(err)
		}
		for _, ref := range Refs(d) {
			err := Check(without(d, ref))
			if len(Users(d, ref)) == 0 {
				unused++
				if err != api.OK {
					t.Fatalf("without %v: Check is %d", ref, err)
				}
				continue
			}
			used++
			if err != api.ErrRef {
				t.Fatalf("without %v: Check is %d", ref, err)
			}
		}
	}
	if used < 1000 || unused < 1000 {
		t.Errorf("only %d used and %d unused objects", used, unused)
	}
}

func TestP14_Aliasing(t *testing.T) {
	d := sample()
	before := deepCopy(d)
	n, _ := Node(d, 4)
	w, _ := Way(d, 2)
	r, _ := Rel(d, 1)
	n.Tags[0], w.Nodes[0], w.Tags[0], r.Members[0], r.Tags[0] = api.Tag{}, -1, api.Tag{}, api.Member{}, api.Tag{}
	Tags(d, node(4))[0] = api.Tag{}
	Tags(d, way(2))[0] = api.Tag{}
	Tags(d, rel(1))[0] = api.Tag{}
	Users(d, node(1))[0] = api.Ref{}
	Refs(d)[0] = api.Ref{}
	Check(d)
	Has(d, way(8))
	Same(d, before)
	if !reflect.DeepEqual(d, before) {
		t.Error(fmt.Sprint("the dataset has changed: ", d))
	}
}
