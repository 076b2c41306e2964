package codec

import (
	"encoding/binary"
	"math"
	"math/rand"
	"reflect"
	"slices"
	"strings"
	"testing"

	"mapmaker/api"
	"mapmaker/change"
	"mapmaker/data"
)

// encoder encodes with the functions of encoding/binary, whose varints are those of the document.
type encoder struct{ out []byte }

func (e *encoder) ints(l ...int) {
	for _, n := range l {
		e.out = binary.AppendVarint(e.out, int64(n))
	}
}

func (e *encoder) count(n int) { e.out = binary.AppendUvarint(e.out, uint64(n)) }

func (e *encoder) texts(l ...string) {
	for _, s := range l {
		e.count(len(s))
		e.out = append(e.out, s...)
	}
}

func (e *encoder) tags(l []api.Tag) {
	e.count(len(l))
	for _, t := range l {
		e.texts(t.Key, t.Val)
	}
}

func (e *encoder) node(n api.Node) {
	e.ints(n.ID, n.At.Lon, n.At.Lat)
	e.tags(n.Tags)
}

func (e *encoder) way(w api.Way) {
	e.ints(w.ID)
	e.count(len(w.Nodes))
	e.ints(w.Nodes...)
	e.tags(w.Tags)
}

func (e *encoder) rel(r api.Rel) {
	e.ints(r.ID)
	e.count(len(r.Members))
	for _, m := range r.Members {
		e.ints(m.Ref.Kind, m.Ref.ID)
		e.texts(m.Role)
	}
	e.tags(r.Tags)
}

func dataBytes(d api.Data) string {
	var e encoder
	e.count(len(d.Nodes))
	for _, n := range d.Nodes {
		e.node(n)
	}
	e.count(len(d.Ways))
	for _, w := range d.Ways {
		e.way(w)
	}
	e.count(len(d.Rels))
	for _, r := range d.Rels {
		e.rel(r)
	}
	return string(e.out)
}

func changeBytes(l []api.Change) string {
	var e encoder
	e.count(len(l))
	for _, c := range l {
		e.ints(c.Op, c.Kind)
		id := map[int]int{api.KNode: c.Node.ID, api.KWay: c.Way.ID, api.KRel: c.Rel.ID}
		put := map[int]func(){api.KNode: func() { e.node(c.Node) }, api.KWay: func() { e.way(c.Way) }, api.KRel: func() { e.rel(c.Rel) }}
		if change.Check(c) == api.OK && c.Op == api.OpPut {
			put[c.Kind]()
		}
		if change.Check(c) == api.OK && c.Op == api.OpDelete {
			e.ints(id[c.Kind])
		}
	}
	return string(e.out)
}

// number returns a small number, a limit, or any number.
func number(r *rand.Rand) int {
	special := []int{0, 1, -1, 63, 64, -64, -65, api.MaxLon, -api.MaxLat, api.MaxID, math.MaxInt, math.MinInt}
	if r.Intn(3) == 0 {
		return special[r.Intn(len(special))]
	}
	return r.Intn(200) - 50
}

func text(r *rand.Rand) string {
	return []string{"", "a", "name", "\xff\x00", "é~%", strings.Repeat("x", 64)}[r.Intn(6)]
}

func randomTags(r *rand.Rand) (out []api.Tag) {
	for range r.Intn(4) {
		out = append(out, api.Tag{Key: text(r), Val: text(r)})
	}
	return out
}

func randomNode(r *rand.Rand) api.Node {
	return api.Node{ID: number(r), At: api.Coord{Lon: number(r), Lat: number(r)}, Tags: randomTags(r)}
}

func randomWay(r *rand.Rand) (w api.Way) {
	w.ID, w.Tags = number(r), randomTags(r)
	for range r.Intn(5) {
		w.Nodes = append(w.Nodes, number(r))
	}
	return w
}

func randomRel(r *rand.Rand) (x api.Rel) {
	x.ID, x.Tags = number(r), randomTags(r)
	for range r.Intn(4) {
		x.Members = append(x.Members, api.Member{Ref: api.Ref{Kind: number(r), ID: number(r)}, Role: text(r)})
	}
	return x
}

// randomData returns a dataset that is hardly ever valid.
func randomData(r *rand.Rand) (d api.Data) {
	for range r.Intn(4) {
		d.Nodes = append(d.Nodes, randomNode(r))
	}
	for range r.Intn(4) {
		d.Ways = append(d.Ways, randomWay(r))
	}
	for range r.Intn(4) {
		d.Rels = append(d.Rels, randomRel(r))
	}
	return d
}

// randomChanges returns changes whose unused fields are zero.
func randomChanges(r *rand.Rand) (out []api.Change) {
	for range r.Intn(6) {
		c := api.Change{Op: 1 + r.Intn(2), Kind: 1 + r.Intn(3)}
		switch {
		case c.Op == api.OpDelete && c.Kind == api.KNode:
			c.Node.ID = number(r)
		case c.Op == api.OpDelete && c.Kind == api.KWay:
			c.Way.ID = number(r)
		case c.Op == api.OpDelete:
			c.Rel.ID = number(r)
		case c.Kind == api.KNode:
			c.Node = randomNode(r)
		case c.Kind == api.KWay:
			c.Way = randomWay(r)
		default:
			c.Rel = randomRel(r)
		}
		out = append(out, c)
	}
	return out
}

// sameChange reports whether two changes are equal in all fields.
func sameChange(a, b api.Change) bool {
	all := func(c api.Change) api.Data {
		return api.Data{Nodes: []api.Node{c.Node}, Ways: []api.Way{c.Way}, Rels: []api.Rel{c.Rel}}
	}
	return a.Op == b.Op && a.Kind == b.Kind && data.Same(all(a), all(b))
}

// sample returns a valid dataset.
func sample() api.Data {
	return api.Data{
		Nodes: []api.Node{{ID: 1, At: api.Coord{Lon: -3, Lat: 3}}, {ID: 2, Tags: []api.Tag{{Key: "a", Val: "xy"}}}},
		Ways:  []api.Way{{ID: 7, Nodes: []int{1, 2}}},
		Rels:  []api.Rel{{ID: 3, Members: []api.Member{{Ref: api.Ref{Kind: 2, ID: 7}, Role: "o"}}}},
	}
}

const sampleBytes = "\x02\x02\x05\x06\x00\x04\x00\x00\x01\x01a\x02xy\x01\x0e\x02\x02\x04\x00\x01\x06\x01\x04\x0e\x01o\x00"

func TestP16_1Data(t *testing.T) {
	if s := PutData(api.Data{}); s != "\x00\x00\x00" {
		t.Errorf("PutData of the empty dataset is %q", s)
	}
	if s := PutData(sample()); s != sampleBytes {
		t.Errorf("PutData is %q, not %q", s, sampleBytes)
	}
	r := rand.New(rand.NewSource(1))
	for range 3000 {
		d := randomData(r)
		if s := PutData(d); s != dataBytes(d) {
			t.Fatalf("PutData(%v) is %q, not %q", d, s, dataBytes(d))
		}
	}
	// Lists beyond their limits are written too.
	big := api.Data{Nodes: make([]api.Node, api.MaxObject+1), Ways: []api.Way{{Nodes: make([]int, api.MaxPoints+1), Tags: make([]api.Tag, api.MaxTags+1)}}, Rels: []api.Rel{{Members: make([]api.Member, api.MaxMember+1), Tags: []api.Tag{{Key: strings.Repeat("k", 300)}}}}}
	if PutData(big) != dataBytes(big) {
		t.Error("PutData of long lists")
	}
}

func TestP16_1Changes(t *testing.T) {
	for _, y := range []struct {
		l    []api.Change
		want string
	}{
		{nil, "\x00"},
		{[]api.Change{{Op: api.OpDelete, Kind: api.KWay, Way: api.Way{ID: 5}}}, "\x01\x04\x04\x0a"},
		{[]api.Change{{Op: api.OpDelete, Kind: api.KNode, Node: api.Node{ID: -5, Tags: []api.Tag{{}}}, Way: api.Way{ID: 9}}}, "\x01\x04\x02\x09"},
		{[]api.Change{{Op: api.OpPut, Kind: api.KRel, Rel: api.Rel{ID: 1}, Node: api.Node{ID: 9}}}, "\x01\x02\x06\x02\x00\x00"},
		// Of a change that Check rejects only the operation and the kind are written.
		{[]api.Change{{Op: 3, Kind: api.KWay, Way: api.Way{ID: 5}}, {Op: api.OpPut, Kind: 4, Rel: api.Rel{ID: 5}}, {}, {Op: -1, Kind: -1}}, "\x04\x06\x04\x02\x08\x00\x00\x01\x01"},
	} {
		if s := PutChanges(y.l); s != y.want || s != changeBytes(y.l) {
			t.Errorf("PutChanges(%v) is %q, not %q", y.l, s, y.want)
		}
	}
	r := rand.New(rand.NewSource(2))
	for range 3000 {
		l := randomChanges(r)
		if len(l) > 0 && r.Intn(2) == 0 {
			l[r.Intn(len(l))].Op = number(r)
			l[r.Intn(len(l))].Kind = number(r)
			l[r.Intn(len(l))].Way = randomWay(r)
		}
		if s := PutChanges(l); s != changeBytes(l) {
			t.Fatalf("PutChanges(%v) is %q, not %q", l, s, changeBytes(l))
		}
	}
	long := make([]api.Change, api.MaxObject+1)
	if PutChanges(long) != changeBytes(long) {
		t.Error("PutChanges of many changes")
	}
}

func TestP16_2Ends(t *testing.T) {
	changes := []api.Change{{Op: api.OpPut, Kind: api.KNode, Node: sample().Nodes[1]}, {Op: api.OpDelete, Kind: api.KNode, Node: api.Node{ID: 1000}}, {Op: api.OpPut, Kind: api.KRel, Rel: sample().Rels[0]}}
	for _, s := range []string{sampleBytes, "\x00\x00\x00"} {
		for i := range len(s) {
			if d, err := GetData(s[:i]); err != api.ErrEnd || !data.Same(d, api.Data{}) {
				t.Errorf("GetData of %d bytes of %q returns %v, %d", i, s, d, err)
			}
		}
		if d, err := GetData(s + "\x00"); err != api.ErrLong || !data.Same(d, api.Data{}) {
			t.Errorf("GetData with a byte more returns %v, %d", d, err)
		}
	}
	s := PutChanges(changes)
	for i := range len(s) {
		if l, err := GetChanges(s[:i]); err != api.ErrEnd || len(l) != 0 {
			t.Errorf("GetChanges of %d bytes returns %v, %d", i, l, err)
		}
	}
	if l, err := GetChanges(s + "\x00"); err != api.ErrLong || len(l) != 0 {
		t.Errorf("GetChanges with a byte more returns %v, %d", l, err)
	}
}

func TestP16_2Limits(t *testing.T) {
	tags := func(n int) []api.Tag { return make([]api.Tag, n) }
	long := func(n int) string { return strings.Repeat("y", n) }
	node := func(n api.Node) api.Data { return api.Data{Nodes: []api.Node{n}} }
	way := func(w api.Way) api.Data { return api.Data{Ways: []api.Way{w}} }
	rel := func(r api.Rel) api.Data { return api.Data{Rels: []api.Rel{r}} }
	for _, y := range []struct {
		name      string
		most, one api.Data // what is just allowed, and the same with one more
	}{
		{"nodes", api.Data{Nodes: make([]api.Node, api.MaxObject)}, api.Data{Nodes: make([]api.Node, api.MaxObject+1)}},
		{"ways", api.Data{Ways: make([]api.Way, api.MaxObject)}, api.Data{Ways: make([]api.Way, api.MaxObject+1)}},
		{"relations", api.Data{Rels: make([]api.Rel, api.MaxObject)}, api.Data{Rels: make([]api.Rel, api.MaxObject+1)}},
		{"nodes of a way", way(api.Way{Nodes: make([]int, api.MaxPoints)}), way(api.Way{Nodes: make([]int, api.MaxPoints+1)})},
		{"members", rel(api.Rel{Members: make([]api.Member, api.MaxMember)}), rel(api.Rel{Members: make([]api.Member, api.MaxMember+1)})},
		{"tags of a node", node(api.Node{Tags: tags(api.MaxTags)}), node(api.Node{Tags: tags(api.MaxTags + 1)})},
		{"tags of a way", way(api.Way{Tags: tags(api.MaxTags)}), way(api.Way{Tags: tags(api.MaxTags + 1)})},
		{"tags of a relation", rel(api.Rel{Tags: tags(api.MaxTags)}), rel(api.Rel{Tags: tags(api.MaxTags + 1)})},
		{"key", node(api.Node{Tags: []api.Tag{{Key: long(64)}}}), node(api.Node{Tags: []api.Tag{{Key: long(65)}}})},
		{"value", way(api.Way{Tags: []api.Tag{{Val: long(64)}}}), way(api.Way{Tags: []api.Tag{{Val: long(65)}}})},
		{"role", rel(api.Rel{Members: []api.Member{{Role: long(64)}}}), rel(api.Rel{Members: []api.Member{{Role: long(65)}}})},
	} {
		if d, err := GetData(PutData(y.most)); err != api.OK || !data.Same(d, y.most) {
			t.Errorf("%s: GetData returns %d", y.name, err)
		}
		if d, err := GetData(PutData(y.one)); err != api.ErrLong || !data.Same(d, api.Data{}) {
			t.Errorf("%s: GetData with one more returns %d", y.name, err)
		}
	}
	many := make([]api.Change, api.MaxObject+1)
	for i := range many {
		many[i] = api.Change{Op: api.OpDelete, Kind: api.KRel, Rel: api.Rel{ID: i}}
	}
	if l, err := GetChanges(PutChanges(many[1:])); err != api.OK || !slices.EqualFunc(l, many[1:], sameChange) {
		t.Errorf("GetChanges returns %d", err)
	}
	if l, err := GetChanges(PutChanges(many)); err != api.ErrLong || len(l) != 0 {
		t.Errorf("GetChanges with one more returns %d", err)
	}
}

func TestP16_2Order(t *testing.T) {
	eleven := strings.Repeat("\x80", 11)
	for _, y := range []struct {
		s             string
		data, changes api.Errno
	}{
		{"\x80\x00", api.ErrForm, api.ErrForm},                                      // a count that is too long
		{eleven, api.ErrForm, api.ErrForm},                                          // an integer without an end
		{"\x91\x4e", api.ErrLong, api.ErrLong},                                      // 10001 objects, which is found before their end
		{"\x01\x02\x00\x00\x11", api.ErrLong, api.ErrArg},                           // 17 tags; operation 1 of kind 0
		{"\x01\x02\x00\x00\x01\x41", api.ErrLong, api.ErrArg},                       // a key of 65 bytes, before their end
		{"\x01\x02\x00\x00\x01\x40abc", api.ErrEnd, api.ErrArg},                     // a key of 64 bytes, of which 3 are there
		{"\x01\x02\x80\x00", api.ErrForm, api.ErrForm},                              // a wrong Lon or Kind
		{"\x01\x02", api.ErrEnd, api.ErrEnd},                                        // no Kind
		{"\x01\x06", api.ErrEnd, api.ErrEnd},                                        // a wrong operation, but no Kind
		{"\x01\x06\x04", api.ErrEnd, api.ErrArg},                                    // a wrong operation, found after the Kind
		{"\x01\x06\x04\x80\x00", api.ErrForm, api.ErrArg},                           // and before what follows
		{"\x01\x04\x08\x0a", api.ErrEnd, api.ErrArg},                                // a wrong Kind
		{"\x02\x04\x04\x0a\x06\x04\x0a", api.ErrEnd, api.ErrArg},                    // a wrong second change
		{"\x01\x04\x04\x0a\x00", api.ErrEnd, api.ErrLong},                           // a node without ways after it; bytes are left
		{"\x00\x00\x01\x02\x01\x04\x0e\x01o\x00\x00", api.ErrLong, api.ErrLong},     // bytes are left
		{"\x00\x01\x02\xd1\x0f", api.ErrLong, api.ErrLong},                          // 2001 nodes of a way
		{"\x00\x00\x01\x02\xc9\x01", api.ErrLong, api.ErrLong},                      // 201 members
		{"\x00\x00\x01\x02\x01\x04\x0e\x41", api.ErrLong, api.ErrLong},              // a role of 65 bytes
		{"\x00\x00\x01\x02\x01\x04\x0e\xff\xff", api.ErrEnd, api.ErrLong},           // a role without the end of its length
		{"\x01\x02" + strings.Repeat("\xff", 9) + "\x02", api.ErrForm, api.ErrForm}, // more than 64 bits
	} {
		d, err := GetData(y.s)
		if err != y.data || !data.Same(d, api.Data{}) {
			t.Errorf("GetData(%q) returns %v, %d, not %d", y.s, d, err, y.data)
		}
		l, err := GetChanges(y.s)
		if err != y.changes || len(l) != 0 {
			t.Errorf("GetChanges(%q) returns %v, %d, not %d", y.s, l, err, y.changes)
		}
	}
}

func TestP16_2Deletions(t *testing.T) {
	full := api.Change{Op: api.OpDelete, Node: api.Node{ID: 1, At: api.Coord{Lon: 5}, Tags: []api.Tag{{Key: "a"}}}, Way: api.Way{ID: 2, Nodes: []int{1}, Tags: []api.Tag{{Key: "b"}}}, Rel: api.Rel{ID: 3, Members: make([]api.Member, 1), Tags: []api.Tag{{Key: "c"}}}}
	for kind, want := range map[int]api.Change{api.KNode: {Node: api.Node{ID: 1}}, api.KWay: {Way: api.Way{ID: 2}}, api.KRel: {Rel: api.Rel{ID: 3}}} {
		full.Kind = kind
		want.Op, want.Kind = api.OpDelete, kind
		l, err := GetChanges(PutChanges([]api.Change{full}))
		if err != api.OK || len(l) != 1 || !sameChange(l[0], want) {
			t.Errorf("GetChanges returns %v, %d, not %v", l, err, want)
		}
	}
	// The fields of other kinds are not encoded.
	full.Op, full.Kind = api.OpPut, api.KWay
	want := api.Change{Op: api.OpPut, Kind: api.KWay, Way: full.Way}
	if l, err := GetChanges(PutChanges([]api.Change{full})); err != api.OK || len(l) != 1 || !sameChange(l[0], want) {
		t.Errorf("GetChanges returns %v, %d, not %v", l, err, want)
	}
}

func TestP16_3Recovered(t *testing.T) {
	if d, err := GetData(sampleBytes); err != api.OK || !data.Same(d, sample()) {
		t.Errorf("GetData returns %v, %d", d, err)
	}
	r := rand.New(rand.NewSource(3))
	for range 3000 {
		d, l := randomData(r), randomChanges(r)
		if back, err := GetData(PutData(d)); err != api.OK || !data.Same(back, d) {
			t.Fatalf("GetData returns %v, %d, not %v", back, err, d)
		}
		if back, err := GetChanges(PutChanges(l)); err != api.OK || !slices.EqualFunc(back, l, sameChange) {
			t.Fatalf("GetChanges returns %v, %d, not %v", back, err, l)
		}
	}
}

func TestP16_3OneEncoding(t *testing.T) {
	r := rand.New(rand.NewSource(4))
	decoded := 0
	for range 60000 {
		s := []byte(PutData(randomData(r)))
		if r.Intn(2) == 0 {
			s = []byte(PutChanges(randomChanges(r)))
		}
		for range r.Intn(3) {
			i := r.Intn(len(s))
			switch r.Intn(4) {
			case 0:
				s[i] = byte(r.Intn(256))
			case 1:
				s = slices.Insert(s, i, byte(r.Intn(4)))
			case 2:
				s = append(slices.Delete(s, i, i+1), 0)
			case 3:
				s[i] ^= 1 << r.Intn(8)
			}
		}
		if d, err := GetData(string(s)); err == api.OK {
			decoded++
			if PutData(d) != string(s) {
				t.Fatalf("%q and %q are encodings of %v", s, PutData(d), d)
			}
		}
		if l, err := GetChanges(string(s)); err == api.OK {
			decoded++
			if PutChanges(l) != string(s) {
				t.Fatalf("%q and %q are encodings of %v", s, PutChanges(l), l)
			}
		}
	}
	if decoded < 10000 {
		t.Errorf("only %d strings were decoded", decoded)
	}
}

// TestP16_Aliasing checks that encoding changes nothing and that decoded lists share no memory.
func TestP16_Aliasing(t *testing.T) {
	d := sample()
	s := PutData(d)
	PutChanges([]api.Change{{Op: api.OpPut, Kind: api.KWay, Way: d.Ways[0]}})
	if !reflect.DeepEqual(d, sample()) {
		t.Errorf("the dataset became %v", d)
	}
	a, _ := GetData(s)
	b, _ := GetData(s)
	a.Nodes[1].Tags[0].Val, a.Ways[0].Nodes[0], a.Rels[0].Members[0].Role = "z", 9, "z"
	if !data.Same(b, sample()) {
		t.Errorf("another dataset became %v", b)
	}
}
