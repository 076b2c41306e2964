package geocode

import (
	"cmp"
	"math"
	"math/rand"
	"slices"
	"strconv"
	"strings"
	"testing"

	"mapmaker/api"
	"mapmaker/grid"
	"mapmaker/words"
)

func at(x, y int) api.Point { return api.Point{X: x, Y: y} }

func named(name string) []api.Tag {
	return []api.Tag{{Key: "name", Val: name}}
}

func node(id, x, y int, tags []api.Tag) api.Node {
	c, _ := grid.Center(at(x, y))
	return api.Node{ID: id, At: c, Tags: tags}
}

func hit(kind, id int, name string, x, y, score int) api.Hit {
	return api.Hit{Ref: api.Ref{Kind: kind, ID: id}, Name: name, At: at(x, y), Score: score}
}

func must(t *testing.T, d api.Data) *Coder {
	t.Helper()
	c, err := New(d)
	if c == nil || err != api.OK {
		t.Fatalf("New(%v) returns %d", d, err)
	}
	return c
}

// town is a dataset with some names.
func town() api.Data {
	return api.Data{
		Nodes: []api.Node{
			node(1, 10, 10, named("Oak Road")), node(2, 10, 20, nil), node(3, 30, 10, named("Oak Road North")), node(4, 30, 10, named("")),
			node(5, 50, 50, []api.Tag{{Key: "highway", Val: "x"}, {Key: "name", Val: "\xc3\x89cole St."}}), node(6, 10, 10, named("...")),
		},
		Ways: []api.Way{
			{ID: 1, Nodes: []int{2, 3, 5}, Tags: named("Oak Rd")}, {ID: 2, Nodes: []int{2, 3}}, {ID: 4, Nodes: []int{1, 6}, Tags: named("Oak")},
			{ID: 7, Nodes: []int{1, 6, 5}, Tags: named("Road")},
		},
		Rels: []api.Rel{{ID: 1, Members: []api.Member{{Ref: api.Ref{Kind: api.KWay, ID: 1}}}, Tags: named("Oak")}},
	}
}

func townHits() []api.Hit {
	return []api.Hit{
		hit(1, 1, "Oak Road", 10, 10, 0), hit(1, 3, "Oak Road North", 30, 10, 0), hit(1, 5, "\xc3\x89cole St.", 50, 50, 0), hit(1, 6, "...", 10, 10, 0),
		hit(2, 1, "Oak Rd", 10, 20, 0), hit(2, 7, "Road", 10, 10, 0),
	}
}

func TestP53_1Named(t *testing.T) {
	if got := Named(town()); !slices.Equal(got, townHits()) {
		t.Errorf("Named is %v", got)
	}
	bad := town()
	bad.Ways[3].Nodes[0] = 99
	if got := Named(bad); len(got) != 0 {
		t.Errorf("Named of a dataset that is not valid is %v", got)
	}
	if got := Named(api.Data{}); len(got) != 0 {
		t.Errorf("Named of an empty dataset is %v", got)
	}
}

func TestP53_2Score(t *testing.T) {
	l := func(s string) []string { return strings.Fields(s) }
	many := slices.Repeat([]string{"x"}, 40)
	for _, x := range []struct {
		name, q []string
		want    int
		ok      bool
	}{
		{l("oak road"), l("oak r"), 100, true},
		{l("oak road north"), l("oak r"), 101, true},
		{l("oak road"), l("oak road"), 0, true},
		{l("oak road"), l("road oak"), 0, true},
		{l("oak road"), l("oak"), 1, true},
		{l("oak road"), l("o"), 101, true},
		{l("oak road"), l("ro oak"), 0, false},
		{l("oak road"), l("oak oak"), 0, false},
		{l("oak oak"), l("oak oak"), 0, true},
		{l("oak oaks"), l("oak oak"), 100, true},
		{l("oak oaks"), l("oak o"), 100, true},
		{l("a ab b"), l("ab a"), 1, true},
		{l("ab a b"), l("a a"), 101, true},
		{l("ab a a"), l("a a"), 1, true},
		{l("ab abc"), l("ab a"), 100, true},
		{l("ab abc"), l("abc ab a"), 0, false},
		{l("oak"), l("oak road"), 0, false},
		{l("oak"), l("oakx"), 0, false},
		{l("oak"), l("x"), 0, false},
		{nil, l("x"), 0, false},
		{l("oak"), nil, 0, false},
		{nil, nil, 0, false},
		{[]string{"oak"}, []string{""}, 100, true},
		{[]string{"", "oak"}, []string{""}, 1, true},
		{[]string{"", "oak"}, []string{"", "oak"}, 0, true},
		{[]string{"", "oak"}, []string{"", ""}, 100, true},
		{nil, []string{""}, 0, false},
		{many, many[:16], 24, true},
		{many, many[:17], 0, false},
		{many[:16], many[:16], 0, true},
		{many[:15], many[:16], 0, false},
		{[]string{"\xff\x00a"}, []string{"\xff"}, 100, true},
	} {
		if got, ok := Score(x.name, x.q); got != x.want || ok != x.ok {
			t.Errorf("Score(%q, %q) is %d, %v, not %d, %v", x.name, x.q, got, ok, x.want, x.ok)
		}
	}
}

// scoreBySearch is Score by a search through all choices of positions.
func scoreBySearch(name, q []string) (int, bool) {
	best, ok := 0, false
	used := make([]bool, len(name))
	var place func(i int)
	place = func(i int) {
		for at, w := range name {
			switch {
			case used[at]:
			case i < len(q)-1 && w == q[i]:
				used[at] = true
				place(i + 1)
				used[at] = false
			case i == len(q)-1 && strings.HasPrefix(w, q[i]):
				score := len(name) - len(q)
				if w != q[i] {
					score += 100
				}
				if !ok || score < best {
					best, ok = score, true
				}
			}
		}
	}
	if len(q) > 0 {
		place(0)
	}
	return best, ok
}

func TestP53_2BySearch(t *testing.T) {
	r := rand.New(rand.NewSource(1))
	found := 0
	for range 30000 {
		list := func(n int) (out []string) {
			for range n {
				out = append(out, []string{"", "a", "a", "ab", "ab", "abc", "b", "ba"}[r.Intn(8)])
			}
			return out
		}
		name, q := list(r.Intn(7)), list(r.Intn(5))
		want, ok := scoreBySearch(name, q)
		if got, gotOK := Score(name, q); got != want || gotOK != ok {
			t.Fatalf("Score(%q, %q) is %d, %v, not %d, %v", name, q, got, gotOK, want, ok)
		}
		if ok {
			found++
		}
	}
	if found < 5000 {
		t.Errorf("only %d queries matched", found)
	}
}

func TestP53_3NewErrors(t *testing.T) {
	for _, x := range []struct {
		change func(d *api.Data)
		want   api.Errno
	}{
		{func(d *api.Data) {}, api.OK},
		{func(d *api.Data) { d.Nodes[0].ID = 0 }, api.ErrRange},
		{func(d *api.Data) { d.Nodes[1].ID = 1 }, api.ErrOrder},
		{func(d *api.Data) { d.Nodes[1].At.Lon = math.MaxInt }, api.ErrCoord},
		{func(d *api.Data) { d.Ways[0].Nodes = nil }, api.ErrShort},
		{func(d *api.Data) { d.Ways[0].Nodes[0] = 9 }, api.ErrRef},
		{func(d *api.Data) { d.Rels[0].Tags[0].Key = "" }, api.ErrTag},
		{func(d *api.Data) { d.Ways = make([]api.Way, api.MaxObject+1) }, api.ErrLong},
	} {
		d := town()
		x.change(&d)
		c, err := New(d)
		if err != x.want || (c == nil) != (err != api.OK) {
			t.Errorf("New returns %d, not %d", err, x.want)
		}
		old := must(t, town())
		if n, err := old.Update(d); err != x.want || n != 0 || old.Len() != 6 || len(old.Find("oak", 9)) != 3 {
			t.Errorf("Update returns %d, %d, not %d", n, err, x.want)
		}
	}
}

func TestP53_3Find(t *testing.T) {
	c := must(t, town())
	road, north, rd, only, school := hit(1, 1, "Oak Road", 10, 10, 0), hit(1, 3, "Oak Road North", 30, 10, 0), hit(2, 1, "Oak Rd", 10, 20, 0), hit(2, 7, "Road", 10, 10, 0), hit(1, 5, "\xc3\x89cole St.", 50, 50, 0)
	scored := func(h api.Hit, score int) api.Hit { h.Score = score; return h }
	for _, x := range []struct {
		q    string
		most int
		want []api.Hit
	}{
		{"oak r", 9, []api.Hit{scored(road, 100), scored(rd, 100), scored(north, 101)}},
		{"oak road", 9, []api.Hit{road, rd, scored(north, 1)}},
		{"OAK RD", 9, []api.Hit{road, rd, scored(north, 1)}},
		{"Road, Oak!", 2, []api.Hit{road, rd}},
		{"road", 9, []api.Hit{only, scored(road, 1), scored(rd, 1), scored(north, 2)}},
		{"road", 1, []api.Hit{only}},
		{"road", 0, nil},
		{"road", -1, nil},
		{"road", math.MinInt, nil},
		{"road", math.MaxInt, []api.Hit{only, scored(road, 1), scored(rd, 1), scored(north, 2)}},
		{"n oak rd", 9, []api.Hit{north}},
		{"oak n", 9, []api.Hit{scored(north, 1)}},
		{"oak no", 9, []api.Hit{scored(north, 101)}},
		{"ecole st", 9, []api.Hit{school}},
		{"\xc3\xa9cole", 9, []api.Hit{scored(school, 1)}},
		{"oak oak", 9, nil},
		{"ro oak", 9, nil},
		{"elm", 9, nil},
		{"", 9, nil},
		{"...", 9, nil},
		{strings.Repeat("oak ", 17), 9, nil},
	} {
		if got := c.Find(x.q, x.most); !slices.Equal(got, x.want) {
			t.Errorf("Find(%q, %d) is %v, not %v", x.q, x.most, got, x.want)
		}
	}
	// Of a name and of a query the first 16 words count.
	long := strings.TrimSpace(strings.Repeat("a b ", 9))
	d := api.Data{Nodes: []api.Node{node(1, 1, 1, named(long)), node(2, 1, 1, named(long[:31]))}}
	c = must(t, d)
	if got := c.Find(long+" zzz", 9); len(got) != 2 || got[0].Score != 0 || got[1].Score != 0 {
		t.Errorf("Find of 19 words is %v", got)
	}
}

func TestP53_3Near(t *testing.T) {
	c := must(t, town())
	for _, x := range []struct {
		p    api.Point
		most int
		want []api.Hit
	}{
		{at(10, 11), 9, []api.Hit{hit(1, 1, "Oak Road", 10, 10, 1), hit(1, 6, "...", 10, 10, 1), hit(2, 7, "Road", 10, 10, 1), hit(2, 1, "Oak Rd", 10, 20, 81), hit(1, 3, "Oak Road North", 30, 10, 401), hit(1, 5, "\xc3\x89cole St.", 50, 50, 1600+39*39)}},
		{at(10, 10), 2, []api.Hit{hit(1, 1, "Oak Road", 10, 10, 0), hit(1, 6, "...", 10, 10, 0)}},
		{at(10, 19), 1, []api.Hit{hit(2, 1, "Oak Rd", 10, 20, 1)}},
		{at(10, 15), 4, []api.Hit{hit(1, 1, "Oak Road", 10, 10, 25), hit(1, 6, "...", 10, 10, 25), hit(2, 1, "Oak Rd", 10, 20, 25), hit(2, 7, "Road", 10, 10, 25)}},
		{at(10, 10), 0, nil},
		{at(10, 10), -1, nil},
		{at(10, 10), math.MinInt, nil},
		{at(-1, 10), 5, nil},
		{at(10, api.Side), 5, nil},
		{at(math.MinInt, math.MaxInt), 5, nil},
	} {
		if got := c.Near(x.p, x.most); !slices.Equal(got, x.want) {
			t.Errorf("Near(%v, %d) is %v, not %v", x.p, x.most, got, x.want)
		}
	}
	if got := c.Near(at(0, 0), math.MaxInt); len(got) != 6 {
		t.Errorf("Near with the greatest number is %v", got)
	}
	last := api.Side - 1
	if got := c.Near(at(last, last), 1); len(got) != 1 || got[0] != hit(1, 5, "\xc3\x89cole St.", 50, 50, 2*(last-50)*(last-50)) {
		t.Errorf("Near the last point is %v", got)
	}
}

func TestP53_4Nil(t *testing.T) {
	var c *Coder
	if len(c.Find("a", 9)) != 0 || len(c.Near(at(1, 1), 9)) != 0 || c.Len() != 0 {
		t.Error("a nil coder is not empty")
	}
	if n, err := c.Update(town()); n != 0 || err != api.ErrArg {
		t.Errorf("Update of a nil coder is %d, %d", n, err)
	}
	bad := town()
	bad.Nodes[0].ID = 0
	if n, err := c.Update(bad); n != 0 || err != api.ErrArg {
		t.Errorf("Update of a nil coder with a dataset that is not valid is %d, %d", n, err)
	}
	empty := must(t, api.Data{})
	if empty.Len() != 0 || len(empty.Find("a", 9)) != 0 || len(empty.Near(at(1, 1), 9)) != 0 {
		t.Error("the coder of an empty dataset is not empty")
	}
}

func TestP53_4Update(t *testing.T) {
	for _, x := range []struct {
		name   string
		change func(d *api.Data)
		want   int
	}{
		{"nothing", func(d *api.Data) {}, 0},
		{"another name", func(d *api.Data) { d.Nodes[0].Tags = named("Elm") }, 1},
		{"another case", func(d *api.Data) { d.Nodes[0].Tags = named("OAK Road") }, 1},
		{"no name", func(d *api.Data) { d.Nodes[0].Tags = nil }, 1},
		{"a new name", func(d *api.Data) { d.Nodes[1].Tags = named("Elm") }, 1},
		{"a node moved", func(d *api.Data) { d.Nodes[5] = node(6, 11, 10, d.Nodes[5].Tags) }, 2},         // way 4 has a line now
		{"a node of ways moved", func(d *api.Data) { d.Nodes[0] = node(1, 11, 10, d.Nodes[0].Tags) }, 3}, // way 4 has a line now
		{"a node moved a little", func(d *api.Data) { d.Nodes[0].At.Lon++ }, 0},
		{"the second node of a way moved", func(d *api.Data) { d.Nodes[2] = node(3, 31, 10, d.Nodes[2].Tags) }, 1},
		{"a way reversed", func(d *api.Data) { slices.Reverse(d.Ways[0].Nodes) }, 1},
		{"another tag", func(d *api.Data) { d.Nodes[0].Tags = append(d.Nodes[0].Tags, api.Tag{Key: "x"}) }, 0},
		{"another relation", func(d *api.Data) { d.Rels = nil }, 0},
		{"a way removed", func(d *api.Data) { d.Rels, d.Ways = nil, d.Ways[1:] }, 1},
		{"an added node", func(d *api.Data) { d.Nodes = append(d.Nodes, node(9, 5, 5, named("Elm"))) }, 1},
		{"another ID", func(d *api.Data) { d.Ways[3].ID = 8 }, 2},
		{"everything removed", func(d *api.Data) { *d = api.Data{} }, 6},
		{"a node for a way", func(d *api.Data) {
			d.Ways[3].Tags = nil
			d.Nodes = append(d.Nodes, node(7, 10, 10, named("Road")))
		}, 2},
	} {
		c := must(t, town())
		d := town()
		x.change(&d)
		n, err := c.Update(d)
		if n != x.want || err != api.OK {
			t.Errorf("Update with %s is %d, %d, not %d", x.name, n, err, x.want)
		}
		sameCoders(t, c, must(t, d))
		if n, err := c.Update(town()); n != x.want || err != api.OK {
			t.Errorf("Update back from %s is %d, %d, not %d", x.name, n, err, x.want)
		}
		sameCoders(t, c, must(t, town()))
	}
}

// sameCoders tests that both answer some questions alike.
func sameCoders(t *testing.T, a, b *Coder) {
	t.Helper()
	if a.Len() != b.Len() {
		t.Errorf("Len is %d, not %d", a.Len(), b.Len())
	}
	for _, q := range []string{"o", "oak", "oak r", "r", "e", "elm", "n", "a b", "b a", "ab"} {
		if x, y := a.Find(q, 99), b.Find(q, 99); !slices.Equal(x, y) {
			t.Errorf("Find(%q) is %v, not %v", q, x, y)
		}
	}
	for _, p := range []api.Point{{X: 10, Y: 10}, {X: 40, Y: 30}, {X: 5, Y: 70}} {
		if x, y := a.Near(p, 99), b.Near(p, 99); !slices.Equal(x, y) {
			t.Errorf("Near(%v) is %v, not %v", p, x, y)
		}
	}
}

// randomData returns a dataset with names of few different words.
func randomData(r *rand.Rand) api.Data {
	name := func() []api.Tag {
		if r.Intn(4) == 0 {
			return nil
		}
		var l []string
		for range 1 + r.Intn(4) {
			l = append(l, []string{"a", "A", "ab", "abc", "b", "ba", "\xc3\xa4", "st", "street"}[r.Intn(9)])
		}
		return named(strings.Join(l, []string{" ", "-", ", "}[r.Intn(3)]))
	}
	var d api.Data
	for i := range 1 + r.Intn(12) {
		d.Nodes = append(d.Nodes, node(2*i+1, r.Intn(20), r.Intn(20), name()))
	}
	for i := range r.Intn(12) {
		w := api.Way{ID: i + 1, Tags: name()}
		for range 2 + r.Intn(2) {
			w.Nodes = append(w.Nodes, d.Nodes[r.Intn(len(d.Nodes))].ID)
		}
		d.Ways = append(d.Ways, w)
	}
	return d
}

// findBySearch is Find by a search through all named objects.
func findBySearch(d api.Data, q string, most int) (out []api.Hit) {
	for _, h := range Named(d) {
		if s, ok := scoreBySearch(words.Of(h.Name), words.Of(q)); ok {
			h.Score = s
			out = append(out, h)
		}
	}
	return first(out, most)
}

func nearBySearch(d api.Data, p api.Point, most int) (out []api.Hit) {
	for _, h := range Named(d) {
		h.Score = (h.At.X-p.X)*(h.At.X-p.X) + (h.At.Y-p.Y)*(h.At.Y-p.Y)
		out = append(out, h)
	}
	return first(out, most)
}

func first(l []api.Hit, most int) []api.Hit {
	slices.SortFunc(l, func(a, b api.Hit) int {
		return cmp.Or(cmp.Compare(a.Score, b.Score), cmp.Compare(a.Ref.Kind, b.Ref.Kind), cmp.Compare(a.Ref.ID, b.Ref.ID))
	})
	return l[:max(0, min(most, len(l)))]
}

func TestP53_5BySearch(t *testing.T) {
	r := rand.New(rand.NewSource(2))
	found := 0
	var c *Coder
	var old []api.Hit
	for i := range 2000 {
		d := randomData(r)
		next := Named(d)
		if i%10 == 0 {
			c = must(t, d)
		} else {
			want := 0
			for _, h := range slices.Concat(old, next) {
				in := func(l []api.Hit) bool {
					return slices.ContainsFunc(l, func(x api.Hit) bool { return x.Ref == h.Ref })
				}
				switch {
				case in(old) && in(next) && (!slices.Contains(old, h) || !slices.Contains(next, h)):
					want++ // counted in both lists
				case !in(old) || !in(next):
					want += 2
				}
			}
			if n, err := c.Update(d); n != want/2 || err != api.OK {
				t.Fatalf("Update is %d, %d, not %d", n, err, want/2)
			}
		}
		old = next
		if c.Len() != len(next) {
			t.Fatalf("Len is %d, not %d", c.Len(), len(next))
		}
		for range 12 {
			q := []string{"a", "A", "ab", "b", "a a", "a b", "ab a", "b ab", "s", "st", "st a", "\xc3\xa4 ab", "a b a", "ba b a", "", "c", "abcd"}[r.Intn(17)]
			most := r.Intn(8)
			want := findBySearch(d, q, most)
			if got := c.Find(q, most); !slices.Equal(got, want) {
				t.Fatalf("Find(%q, %d) is %v, not %v", q, most, got, want)
			}
			found += len(want)
			// A longer last word finds nothing else.
			for _, h := range c.Find(q+"b", 99) {
				if q != "" && q != "s" && q != "st" && !slices.ContainsFunc(c.Find(q, 99), func(x api.Hit) bool { return x.Ref == h.Ref }) {
					t.Fatalf("Find(%q) has %v, which Find(%q) has not", q+"b", h, q)
				}
			}
			p := at(r.Intn(20), r.Intn(20))
			want = nearBySearch(d, p, most)
			if got := c.Near(p, most); !slices.Equal(got, want) {
				t.Fatalf("Near(%v, %d) is %v, not %v", p, most, got, want)
			}
		}
	}
	if found < 10000 {
		t.Errorf("only %d objects were found", found)
	}
}

// The named objects of a dataset can be more than a tree can hold.
func TestP53_3Large(t *testing.T) {
	var d api.Data
	for i := range api.MaxObject {
		d.Nodes = append(d.Nodes, node(i+1, i%100, i/100, named("node "+strconv.Itoa(i))))
	}
	for i := range api.MaxObject {
		d.Ways = append(d.Ways, api.Way{ID: i + 1, Nodes: []int{i + 1, (i+1)%api.MaxObject + 1}, Tags: named("way " + strconv.Itoa(i))})
	}
	c := must(t, d)
	if c.Len() != 2*api.MaxObject {
		t.Errorf("Len is %d", c.Len())
	}
	want := []api.Hit{hit(1, 5051, "node 5050", 50, 50, 0), hit(2, 5051, "way 5050", 50, 50, 0), hit(1, 4951, "node 4950", 50, 49, 1)}
	if got := c.Near(at(50, 50), 3); !slices.Equal(got, want) {
		t.Errorf("Near is %v, not %v", got, want)
	}
	if got := c.Near(at(50, 50), math.MaxInt); len(got) != 2*api.MaxObject {
		t.Errorf("Near finds %d objects", len(got))
	}
	if got := c.Find("way 9999", 5); !slices.Equal(got, []api.Hit{hit(2, 10000, "way 9999", 99, 99, 0)}) {
		t.Errorf("Find is %v", got)
	}
	if got := c.Find("node 99", math.MaxInt); len(got) != 111 || got[0].Name != "node 99" || got[1].Name != "node 990" {
		t.Errorf("Find finds %d objects", len(got))
	}
}

func TestP53_Copy(t *testing.T) {
	c := must(t, town())
	other := c.Copy()
	sameCoders(t, other, c)
	if n, err := other.Update(api.Data{}); n != 6 || err != api.OK {
		t.Errorf("Update of a copy is %d, %d", n, err)
	}
	sameCoders(t, c, must(t, town()))
	sameCoders(t, other, must(t, api.Data{}))
	if other = c.Copy(); other.Len() != 6 {
		t.Errorf("a copy has %d named objects", other.Len())
	}
	if n, err := c.Update(api.Data{}); n != 6 || err != api.OK {
		t.Errorf("Update of the original is %d, %d", n, err)
	}
	sameCoders(t, other, must(t, town()))
	var none *Coder
	if none.Copy() != nil {
		t.Error("a nil coder has a copy")
	}
}

func TestP53_Aliasing(t *testing.T) {
	d := town()
	full := append(slices.Clone(d.Nodes), node(99, 1, 1, nil))
	d.Nodes = full[:6]
	c := must(t, d)
	got := c.Find("oak", 9)
	_ = append(got, api.Hit{})
	near := c.Near(at(10, 10), 2)
	_ = append(near, api.Hit{})
	clear(got)
	clear(near)
	if full[6].ID != 99 || d.Nodes[0].ID != 1 {
		t.Error("an argument is changed")
	}
	d.Nodes[0].Tags[0].Val = "Elm"
	clear(d.Ways)
	clear(full)
	sameCoders(t, c, must(t, town()))
	d = town()
	other := must(t, api.Data{})
	if n, err := other.Update(d); n != 6 || err != api.OK {
		t.Errorf("Update is %d, %d", n, err)
	}
	d.Nodes[0].Tags[0].Val = "Elm"
	clear(d.Ways)
	sameCoders(t, other, c)
	name, q := append([]string{"oak", "road"}, "x"), append([]string{"oak", "r"}, "y")
	Score(name[:2], q[:2])
	if !slices.Equal(name, []string{"oak", "road", "x"}) || !slices.Equal(q, []string{"oak", "r", "y"}) {
		t.Error("Score changes an argument")
	}
}
