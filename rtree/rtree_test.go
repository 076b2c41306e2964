package rtree

import (
	"fmt"
	"math"
	"math/rand"
	"slices"
	"testing"

	"mapmaker/api"
	"mapmaker/grid"
	"mapmaker/hilbert"
)

func box(x0, y0, x1, y1 int) api.Box { return api.Box{X0: x0, Y0: y0, X1: x1, Y1: y1} }

func item(kind, id int, b api.Box) api.Item {
	return api.Item{Ref: api.Ref{Kind: kind, ID: id}, Box: b}
}

// whole is the box of the whole grid.
var whole = box(0, 0, api.Side, api.Side)

// wrong has boxes that are not valid.
var wrong = []api.Box{box(-1, 0, 5, 5), box(0, -1, 5, 5), box(6, 0, 5, 5), box(0, 6, 5, 5), box(0, 0, api.Side+1, 5), box(0, 0, 5, api.Side+1), box(math.MinInt, 0, math.MaxInt, 5)}

// randomBox returns a box within the coordinates 0 to size.
func randomBox(r *rand.Rand, size int) api.Box {
	a, b, c, d := r.Intn(size+1), r.Intn(size+1), r.Intn(size+1), r.Intn(size+1)
	if r.Intn(3) == 0 {
		c, d = a, b
	}
	return box(min(a, c), min(b, d), max(a, c), max(b, d))
}

func random(r *rand.Rand, n, size int) (out []api.Item) {
	for _, id := range r.Perm(n) {
		out = append(out, item(1+id%3, id/3-2, randomBox(r, size)))
	}
	return out
}

func must(t *testing.T, l []api.Item, fan int) *Tree {
	t.Helper()
	tree, err := New(l, fan)
	if tree == nil || err != api.OK {
		t.Fatalf("New returns %d", err)
	}
	return tree
}

func before(a, b api.Ref) bool { return a.Kind < b.Kind || a.Kind == b.Kind && a.ID < b.ID }

// search returns the references of all items that meet b, inserted one by one.
func search(l []api.Item, b api.Box) (out []api.Ref) {
	for _, x := range l {
		if !grid.Meets(x.Box, b) {
			continue
		}
		i := 0
		for i < len(out) && before(out[i], x.Ref) {
			i++
		}
		out = slices.Insert(out, i, x.Ref)
	}
	return out
}

func TestP34_1Errors(t *testing.T) {
	good := []api.Item{item(1, 1, box(0, 0, 1, 1)), item(2, 1, box(2, 2, 3, 3)), item(1, 2, whole)}
	long := random(rand.New(rand.NewSource(1)), api.MaxObject+1, 50)
	bad := item(9, 9, wrong[0])
	for _, y := range []struct {
		name string
		l    []api.Item
		fan  int
		want api.Errno
	}{
		{"fan 2", good, 2, api.OK}, {"fan 16", good, 16, api.OK}, {"none", nil, 2, api.OK}, {"most items", long[1:], 2, api.OK},
		{"fan 1", good, 1, api.ErrArg}, {"fan 17", good, 17, api.ErrArg}, {"fan 0", nil, 0, api.ErrArg}, {"fan below 0", good, math.MinInt, api.ErrArg}, {"a large fan", good, math.MaxInt, api.ErrArg},
		{"fan before length", long, 1, api.ErrArg}, {"length", long, 2, api.ErrLong}, {"length before boxes", append(slices.Clone(long), bad), 2, api.ErrLong},
		{"twice", append(slices.Clone(good), item(2, 1, box(0, 0, 0, 0))), 2, api.ErrTwice},
		{"boxes before twice", []api.Item{good[0], good[0], bad}, 2, api.ErrRange}, {"fan before boxes", []api.Item{bad}, 17, api.ErrArg},
		{"odd references", []api.Item{item(0, 0, box(0, 0, 0, 0)), item(-1, math.MinInt, box(0, 0, 0, 0))}, 2, api.OK},
	} {
		tree, err := New(y.l, y.fan)
		if err != y.want || (tree != nil) != (y.want == api.OK) {
			t.Errorf("%s: New returns %v, %d, not %d", y.name, tree != nil, err, y.want)
		}
	}
	for _, b := range wrong {
		if tree, err := New(append(slices.Clone(good), item(3, 3, b)), 2); tree != nil || err != api.ErrRange {
			t.Errorf("New with %v returns %d", b, err)
		}
	}
}

func TestP34_1Items(t *testing.T) {
	// The centers are rounded down and stay within the grid.
	l := []api.Item{item(1, 1, box(0, 0, 1, 1)), item(1, 2, box(0, 0, 1, 3)), item(1, 3, box(1, 1, 1, 2)), item(1, 4, box(1, 0, 2, 0)), item(1, 5, box(api.Side, 0, api.Side, 0)), item(1, 6, box(api.Side-1, 0, api.Side, 1)), item(1, 0, box(api.Side, api.Side, api.Side, api.Side))}
	tree := must(t, l, 3)
	want := []api.Item{l[0], l[1], l[2], l[3], l[6], l[4], l[5]}
	if x := tree.Items(); !slices.Equal(x, want) || tree.Len() != 7 {
		t.Errorf("Items is %v, not %v", x, want)
	}
	r := rand.New(rand.NewSource(2))
	for range 500 {
		l := random(r, r.Intn(40), 1+r.Intn(4))
		if r.Intn(2) == 0 {
			l = random(r, r.Intn(40), api.Side)
		}
		tree := must(t, l, 2+r.Intn(15))
		items := tree.Items()
		if len(items) != len(l) || tree.Len() != len(l) {
			t.Fatalf("%d items of %d", len(items), len(l))
		}
		index := func(x api.Item) int {
			return hilbert.Index(api.Point{X: min((x.Box.X0+x.Box.X1)>>1, api.Side-1), Y: min((x.Box.Y0+x.Box.Y1)>>1, api.Side-1)})
		}
		for i, x := range items {
			if !slices.Contains(l, x) {
				t.Fatalf("%v is not an item", x)
			}
			if i == 0 {
				continue
			}
			y := items[i-1]
			if index(y) > index(x) || index(y) == index(x) && !before(y.Ref, x.Ref) {
				t.Fatalf("%v comes before %v", y, x)
			}
		}
	}
}

func TestP34_2Levels(t *testing.T) {
	sizes := func(levels [][]api.Box) (out []int) {
		for _, level := range levels {
			out = append(out, len(level))
		}
		return out
	}
	r := rand.New(rand.NewSource(3))
	for _, y := range []struct {
		n, fan int
		want   []int
	}{{0, 2, nil}, {1, 2, []int{1}}, {2, 2, []int{1}}, {3, 2, []int{2, 1}}, {5, 2, []int{3, 2, 1}}, {16, 16, []int{1}}, {17, 16, []int{2, 1}}, {100, 3, []int{34, 12, 4, 2, 1}}} {
		if s := sizes(must(t, random(r, y.n, 99), y.fan).Levels()); !slices.Equal(s, y.want) {
			t.Errorf("%d items with fan %d have levels of %v boxes, not %v", y.n, y.fan, s, y.want)
		}
	}
	for range 300 {
		fan := 2 + r.Intn(15)
		tree := must(t, random(r, 1+r.Intn(80), 1+r.Intn(api.Side)), fan)
		var below []api.Box
		for _, x := range tree.Items() {
			below = append(below, x.Box)
		}
		for _, level := range tree.Levels() {
			if len(level) != (len(below)+fan-1)/fan {
				t.Fatalf("a level of %d boxes above %d", len(level), len(below))
			}
			for k, b := range level {
				want := below[k*fan]
				for i := k * fan; i < min(k*fan+fan, len(below)); i++ {
					want = grid.Join(want, below[i])
				}
				if b != want {
					t.Fatalf("box %d is %v, not %v", k, b, want)
				}
			}
			below = level
		}
		if len(below) != 1 {
			t.Fatalf("the last level has %d boxes", len(below))
		}
	}
}

func TestP34_2Window(t *testing.T) {
	l := []api.Item{item(2, 1, box(0, 0, 0, 0)), item(1, 9, box(0, 0, 0, 0)), item(1, 2, box(3, 3, 5, 5)), item(1, -7, box(0, 0, 9, 9))}
	tree := must(t, l, 2)
	ref := func(kind, id int) api.Ref { return api.Ref{Kind: kind, ID: id} }
	for _, y := range []struct {
		b    api.Box
		want []api.Ref
	}{
		{box(0, 0, 0, 0), []api.Ref{ref(1, -7), ref(1, 9), ref(2, 1)}}, {box(5, 5, 7, 7), []api.Ref{ref(1, -7), ref(1, 2)}}, {box(9, 9, 20, 20), []api.Ref{ref(1, -7)}}, {box(10, 0, 20, 20), nil}, {whole, []api.Ref{ref(1, -7), ref(1, 2), ref(1, 9), ref(2, 1)}},
	} {
		if w := tree.Window(y.b); !slices.Equal(w, y.want) {
			t.Errorf("Window(%v) is %v, not %v", y.b, w, y.want)
		}
	}
	for _, b := range wrong {
		if len(tree.Window(b)) != 0 || tree.Visits(b) != 0 {
			t.Errorf("a result for %v", b)
		}
	}
}

func TestP34_2Visits(t *testing.T) {
	// Three leaves with two items each, the last one with one: columns at 0, 10, 20, 30 and 40.
	var l []api.Item
	for i := range 5 {
		l = append(l, item(1, i, box(10*i, 0, 10*i+5, 0)))
	}
	tree := must(t, l, 2)
	if n := len(tree.Levels()[0]); n != 3 || tree.Visits(whole) != 6 || tree.Visits(box(100, 0, 200, 0)) != 0 {
		t.Errorf("%d leaves; Visits of all is %d", n, tree.Visits(whole))
	}
	r := rand.New(rand.NewSource(4))
	for range 1000 {
		size := 1 + r.Intn(200)
		tree := must(t, random(r, r.Intn(60), size), 2+r.Intn(15))
		b := randomBox(r, size)
		want := 0
		for _, level := range tree.Levels() {
			for _, x := range level {
				if grid.Meets(x, b) {
					want++ // so do the boxes above it, which contain it
				}
			}
		}
		if n := tree.Visits(b); n != want {
			t.Fatalf("Visits(%v) is %d, not %d", b, n, want)
		}
	}
}

func TestP34_2NilAndEmpty(t *testing.T) {
	var none *Tree
	for i, tree := range []*Tree{none, must(t, nil, 5), must(t, []api.Item{}, 2)} {
		if tree.Len() != 0 || len(tree.Items()) != 0 || len(tree.Levels()) != 0 || len(tree.Window(whole)) != 0 || tree.Visits(whole) != 0 || tree.Visits(wrong[0]) != 0 {
			t.Errorf("tree %d is not empty", i)
		}
	}
}

func TestP34_3Search(t *testing.T) {
	r := rand.New(rand.NewSource(5))
	for range 400 {
		size := []int{3, 50, 1000, api.Side}[r.Intn(4)]
		l := random(r, r.Intn(100), size)
		mixed := slices.Clone(l)
		r.Shuffle(len(mixed), func(i, j int) { mixed[i], mixed[j] = mixed[j], mixed[i] })
		a, b := must(t, l, 2+r.Intn(15)), must(t, mixed, 2+r.Intn(15))
		if !slices.Equal(a.Items(), b.Items()) {
			t.Fatal("the items depend on their order")
		}
		for range 10 {
			w := randomBox(r, size)
			want := search(l, w)
			if x, y := a.Window(w), b.Window(w); !slices.Equal(x, want) || !slices.Equal(y, want) {
				t.Fatalf("Window(%v) is %v and %v, not %v", w, x, y, want)
			}
		}
	}
}

func TestP34_3EveryLevel(t *testing.T) {
	r := rand.New(rand.NewSource(6))
	for _, fan := range []int{2, 3, 7, 16} {
		tree := must(t, random(r, 90, 500), fan)
		group := 1
		for _, level := range tree.Levels() {
			group *= fan
			for i, x := range tree.Items() {
				if b := level[i/group]; grid.Join(b, x.Box) != b {
					t.Fatalf("fan %d: %v is not in %v", fan, x, b)
				}
			}
		}
	}
}

// TestP34_Aliasing checks that a tree neither changes nor keeps the items, and gives out no memory of its own.
func TestP34_Aliasing(t *testing.T) {
	full := random(rand.New(rand.NewSource(7)), 20, 30)
	before := slices.Clone(full)
	l := full[:19]
	tree := must(t, l, 3)
	if !slices.Equal(full, before) {
		t.Error("New changes its argument")
	}
	state := func() string {
		return fmt.Sprint(tree.Items(), tree.Levels(), tree.Window(whole), tree.Visits(box(3, 3, 9, 9)))
	}
	want := state()
	for i := range full {
		full[i] = api.Item{}
	}
	clear(tree.Items())
	for _, level := range tree.Levels() {
		clear(level)
	}
	clear(tree.Levels())
	clear(tree.Window(whole))
	if state() != want {
		t.Error("the tree has changed")
	}
	// A copy is independent of the original, as far as both are used.
	other := *tree
	if fmt.Sprint(other.Window(whole)) != fmt.Sprint(tree.Window(whole)) {
		t.Error("a copy answers differently")
	}
}

// TestP34_2Stop checks that the search ends when the loop over its items does.
func TestP34_2Stop(t *testing.T) {
	tree := must(t, random(rand.New(rand.NewSource(8)), 50, 30), 2)
	for stop := range 52 {
		n := 0
		for x := range tree.meeting(whole) {
			if x != tree.items[n] {
				t.Fatalf("item %d is %v", n, x)
			}
			if n++; n == stop {
				break
			}
		}
		if stop > 0 && n != min(stop, 50) {
			t.Errorf("%d items before the stop at %d", n, stop)
		}
	}
}

func TestP34_Fan(t *testing.T) {
	for fan := 2; fan <= 16; fan++ {
		if got := must(t, nil, fan).Fan(); got != fan {
			t.Errorf("Fan is %d, not %d", got, fan)
		}
	}
	if got := (*Tree)(nil).Fan(); got != 0 {
		t.Errorf("Fan of no tree is %d", got)
	}
}
