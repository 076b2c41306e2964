package nearest

import (
	"math"
	"math/rand"
	"slices"
	"testing"

	"mapmaker/api"
	"mapmaker/rtree"
)

func box(x0, y0, x1, y1 int) api.Box { return api.Box{X0: x0, Y0: y0, X1: x1, Y1: y1} }

func of(kind, id int, b api.Box) api.Item {
	return api.Item{Ref: api.Ref{Kind: kind, ID: id}, Box: b}
}

func tree(t *testing.T, l []api.Item, fan int) *rtree.Tree {
	t.Helper()
	x, err := rtree.New(l, fan)
	if x == nil || err != api.OK {
		t.Fatalf("rtree.New returns %d", err)
	}
	return x
}

// random returns n items, some of which are points, with coordinates up to size.
func random(r *rand.Rand, n, size int) (out []api.Item) {
	for _, id := range r.Perm(n) {
		a, b, c, d := r.Intn(size+1), r.Intn(size+1), r.Intn(size+1), r.Intn(size+1)
		if r.Intn(2) == 0 {
			c, d = a, b
		}
		out = append(out, of(1+id%3, id/3-2, box(min(a, c), min(b, d), max(a, c), max(b, d))))
	}
	return out
}

// far returns the squared distance of p from the nearest point of the box.
func far(b api.Box, p api.Point) int {
	x, y := min(max(p.X, b.X0), b.X1), min(max(p.Y, b.Y0), b.Y1)
	return (p.X-x)*(p.X-x) + (p.Y-y)*(p.Y-y)
}

// all returns the references of all items in the order of their distances, inserted one by one, and these.
func all(l []api.Item, p api.Point) (refs []api.Ref, dists []int) {
	for _, x := range l {
		d := far(x.Box, p)
		i := 0
		for i < len(refs) && (dists[i] < d || dists[i] == d && (refs[i].Kind < x.Ref.Kind || refs[i].Kind == x.Ref.Kind && refs[i].ID < x.Ref.ID)) {
			i++
		}
		refs, dists = slices.Insert(refs, i, x.Ref), slices.Insert(dists, i, d)
	}
	return refs, dists
}

func TestP35_1Examples(t *testing.T) {
	x := tree(t, []api.Item{of(1, 1, box(0, 0, 1, 1)), of(1, 2, box(5, 0, 6, 1))}, 2)
	p := api.Point{X: 2, Y: 0}
	if got := Find(x, p, 1); !slices.Equal(got, []api.Ref{{Kind: 1, ID: 1}}) {
		t.Errorf("Find is %v", got)
	}
	for dist2, want := range map[int]int{-1: 0, 0: 0, 1: 1, 8: 1, 9: 2, math.MaxInt: 2, math.MinInt: 0} {
		if got := Within(x, p, dist2); len(got) != want {
			t.Errorf("Within %d is %v, not %d items", dist2, got, want)
		}
	}
}

func TestP35_1None(t *testing.T) {
	p := api.Point{X: 2, Y: 0}
	empty := tree(t, nil, 4)
	full := tree(t, []api.Item{of(1, 1, box(0, 0, 1, 1)), of(1, 2, box(0, 0, api.Side, api.Side))}, 2)
	for _, x := range []*rtree.Tree{nil, empty} {
		if a, b := Find(x, p, 3), Within(x, p, math.MaxInt); len(a) != 0 || len(b) != 0 {
			t.Errorf("Find is %v and Within %v without items", a, b)
		}
	}
	for _, p := range []api.Point{{X: -1}, {Y: -1}, {X: api.Side}, {Y: api.Side}, {X: math.MinInt, Y: math.MaxInt}} {
		for _, x := range []*rtree.Tree{nil, empty, full} {
			if a, b := Find(x, p, 3), Within(x, p, math.MaxInt); len(a) != 0 || len(b) != 0 {
				t.Errorf("Find is %v and Within %v from %v", a, b, p)
			}
		}
	}
	for _, k := range []int{0, -1, math.MinInt} {
		if a := Find(full, p, k); len(a) != 0 {
			t.Errorf("Find of %d items is %v", k, a)
		}
	}
	if a := Find(full, p, math.MaxInt); len(a) != 2 {
		t.Errorf("Find of all items is %v", a)
	}
}

func TestP35_1AllItems(t *testing.T) {
	r := rand.New(rand.NewSource(1))
	ties := 0
	for i := range 1500 {
		size := []int{3, 12, 300, api.Side - 1}[i%4]
		l := random(r, r.Intn(90), size)
		x := tree(t, l, 2+r.Intn(15))
		p := api.Point{X: r.Intn(size + 1), Y: r.Intn(size + 1)}
		refs, dists := all(l, p)
		for range 6 {
			k := r.Intn(len(l) + 3)
			if got, want := Find(x, p, k), refs[:min(k, len(refs))]; !slices.Equal(got, want) {
				t.Fatalf("Find(%v, %v, %d) is %v, not %v", l, p, k, got, want)
			}
		}
		limits := []int{0, r.Intn(2*size*size + 1)}
		if len(dists) > 0 {
			d := dists[r.Intn(len(dists))]
			limits = append(limits, d-1, d, d+1)
		}
		for _, limit := range limits {
			n := 0
			for n < len(dists) && dists[n] <= limit {
				n++
			}
			if got := Within(x, p, limit); !slices.Equal(got, refs[:n]) {
				t.Fatalf("Within(%v, %v, %d) is %v, not %v", l, p, limit, got, refs[:n])
			}
		}
		for k := range max(len(dists)-1, 0) {
			if dists[k] == dists[k+1] {
				ties++
			}
		}
	}
	if ties < 1000 {
		t.Errorf("only %d items have the distance of another", ties)
	}
}

func TestP35_1References(t *testing.T) {
	// All boxes contain the point, and the references are in another order than the items.
	r := rand.New(rand.NewSource(2))
	refs := []api.Ref{{Kind: math.MinInt, ID: 7}, {Kind: -1, ID: math.MaxInt}, {Kind: 0, ID: math.MinInt}, {Kind: 1, ID: -5}, {Kind: 1, ID: 0}, {Kind: 1, ID: 9}, {Kind: 2, ID: 1}, {Kind: 3, ID: -1}, {Kind: math.MaxInt, ID: 0}}
	for range 300 {
		var l []api.Item
		for _, i := range r.Perm(len(refs)) {
			l = append(l, api.Item{Ref: refs[i], Box: box(r.Intn(9), r.Intn(9), 9+r.Intn(50), 9+r.Intn(50))})
		}
		x := tree(t, l, 2+r.Intn(4))
		p := api.Point{X: 9, Y: 9}
		for k := range len(refs) + 1 {
			if got := Find(x, p, k); !slices.Equal(got, refs[:k]) {
				t.Fatalf("Find of %d items is %v, not %v", k, got, refs[:k])
			}
		}
		if got := Within(x, p, 0); !slices.Equal(got, refs) {
			t.Fatalf("Within 0 is %v", got)
		}
	}
}

func TestP35_2Beginnings(t *testing.T) {
	r := rand.New(rand.NewSource(3))
	for range 200 {
		l := random(r, r.Intn(60), 20)
		x := tree(t, l, 2+r.Intn(15))
		p := api.Point{X: r.Intn(21), Y: r.Intn(21)}
		whole := Find(x, p, len(l))
		if len(whole) != len(l) {
			t.Fatalf("Find of all %d items returns %d", len(l), len(whole))
		}
		for k := range len(l) {
			a, b := Find(x, p, k), Find(x, p, k+1)
			if len(b) != k+1 || !slices.Equal(a, b[:k]) {
				t.Fatalf("Find of %d items is %v, of one more %v", k, a, b)
			}
		}
		for d := range 50 {
			if w := Within(x, p, d*d/3); len(w) > len(whole) || !slices.Equal(w, whole[:len(w)]) {
				t.Fatalf("Within %d is %v, not a beginning of %v", d*d/3, w, whole)
			}
		}
	}
}

func TestP35_Most(t *testing.T) {
	r := rand.New(rand.NewSource(4))
	l := random(r, api.MaxObject, api.Side)
	for _, fan := range []int{2, 16} {
		x := tree(t, l, fan)
		p := api.Point{X: 1234, Y: 30000}
		got := Find(x, p, math.MaxInt)
		if len(got) != len(l) {
			t.Fatalf("Find returns %d items", len(got))
		}
		boxes := map[api.Ref]api.Box{}
		for _, y := range l {
			boxes[y.Ref] = y.Box
		}
		for i := range len(got) - 1 {
			if far(boxes[got[i]], p) > far(boxes[got[i+1]], p) {
				t.Fatalf("%v comes before %v", got[i], got[i+1])
			}
		}
	}
}

func TestP35_Aliasing(t *testing.T) {
	l := random(rand.New(rand.NewSource(5)), 40, 20)
	x := tree(t, l, 3)
	items, levels := x.Items(), x.Levels()
	p := api.Point{X: 3, Y: 4}
	first := Find(x, p, 20)
	want := slices.Clone(first)
	clear(first)
	Within(x, p, 100)
	if got := Find(x, p, 20); !slices.Equal(got, want) {
		t.Error("the result changes with an earlier one")
	}
	if !slices.Equal(x.Items(), items) || !slices.EqualFunc(x.Levels(), levels, func(a, b []api.Box) bool { return slices.Equal(a, b) }) {
		t.Error("the tree is changed")
	}
}
