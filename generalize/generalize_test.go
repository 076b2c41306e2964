package generalize

import (
	"math"
	"math/rand"
	"reflect"
	"slices"
	"testing"

	"mapmaker/api"
	"mapmaker/grid"
	"mapmaker/seg"
)

func pts(numbers ...int) (out []api.Point) {
	for i := 0; i < len(numbers); i += 2 {
		out = append(out, api.Point{X: numbers[i], Y: numbers[i+1]})
	}
	return out
}

// line returns the line of the points with these coordinates in turn, whose nodes are 101, 102 and so on.
func line(id int, numbers ...int) api.Line {
	x := api.Line{ID: id, Pts: pts(numbers...), Tags: []api.Tag{{Key: "highway", Val: "track"}}}
	for i := range x.Pts {
		x.Nodes = append(x.Nodes, 101+i)
	}
	return x
}

func random(r *rand.Rand, size int) (out []api.Line) {
	for i := range r.Intn(4) {
		var numbers []int
		for range 2 * r.Intn(9) {
			numbers = append(numbers, r.Intn(size))
		}
		x := line(i, numbers...)
		switch n := len(x.Pts); {
		case n > 0 && r.Intn(8) == 0:
			x.Pts[r.Intn(n)] = api.Point{X: -1, Y: r.Intn(2)}
		case n > 0 && r.Intn(8) == 0:
			x.Nodes = x.Nodes[1:]
		}
		out = append(out, x)
	}
	return out
}

// fixed tests each point of a small square, by counting it in all lines.
func fixed(l []api.Line, size int) (out []api.Point) {
	for x := range size {
		for y := range size {
			p, n := api.Point{X: x, Y: y}, 0
			for _, line := range l {
				for i, q := range line.Pts {
					if p != q {
						continue
					}
					n++
					if i == 0 || i == len(line.Pts)-1 {
						n++
					}
				}
			}
			if n > 1 {
				out = append(out, p)
			}
		}
	}
	return out
}

// thinned removes points one by one from lists that are copied each time.
func thinned(x api.Line, fixed []api.Point, limit int) api.Line {
	if len(x.Pts) != len(x.Nodes) || slices.ContainsFunc(x.Pts, func(p api.Point) bool { return !grid.Valid(p) }) {
		return x
	}
	for {
		var order []int // the candidates by their bend, then by their position
		bend := map[int]int{}
		for i := range x.Pts {
			if i == 0 || i == len(x.Pts)-1 || slices.Contains(fixed, x.Pts[i]) {
				continue
			}
			bend[i] = seg.Turn(x.Pts[i-1], x.Pts[i], x.Pts[i+1])
			if bend[i] < 0 {
				bend[i] = -bend[i]
			}
			if bend[i] <= limit {
				order = append(order, i)
			}
		}
		if len(order) == 0 {
			return x
		}
		slices.SortStableFunc(order, func(i, j int) int { return bend[i] - bend[j] })
		i := order[0]
		x.Pts = slices.Concat(x.Pts[:i], x.Pts[i+1:])
		x.Nodes = slices.Concat(x.Nodes[:i], x.Nodes[i+1:])
	}
}

func same(a, b api.Line) bool {
	return a.ID == b.ID && slices.Equal(a.Pts, b.Pts) && slices.Equal(a.Nodes, b.Nodes) && slices.Equal(a.Tags, b.Tags)
}

func TestP26_1Fixed(t *testing.T) {
	for _, y := range []struct {
		l    []api.Line
		want []api.Point
	}{
		{nil, nil}, {[]api.Line{{}}, nil}, {[]api.Line{line(1, 5, 5)}, pts(5, 5)},
		{[]api.Line{line(1, 9, 0, 1, 0, 2, 0, 0, 0)}, pts(0, 0, 9, 0)},
		{[]api.Line{line(1, 0, 0, 1, 0, 2, 0), line(2, 7, 7, 1, 0, 8, 8)}, pts(0, 0, 1, 0, 2, 0, 7, 7, 8, 8)},
		// A point occurs more than once in one line too.
		{[]api.Line{line(1, 0, 0, 1, 0, 2, 0, 1, 0, 3, 3)}, pts(0, 0, 1, 0, 3, 3)},
		{[]api.Line{line(1, 0, 0, 1, 0, 1, 0, 3, 3)}, pts(0, 0, 1, 0, 3, 3)},
		{[]api.Line{line(1, 0, 0, 4, 0, 4, 4, 0, 0)}, pts(0, 0)},
		// Points outside the grid do not count; the others of their lines do, and those of lines without nodes.
		{[]api.Line{line(1, -1, 0, 1, 0, 2, 0, api.Side, 0), line(2, 7, 7, 1, 0, 8, 8)}, pts(1, 0, 7, 7, 8, 8)},
		{[]api.Line{line(1, -1, 0, -1, 0), line(2, math.MinInt, math.MaxInt)}, nil},
		{[]api.Line{{Pts: pts(3, 3, 1, 0, 4, 4)}, line(2, 7, 7, 1, 0, 8, 8)}, pts(1, 0, 3, 3, 4, 4, 7, 7, 8, 8)},
	} {
		if l := Fixed(y.l); !slices.Equal(l, y.want) {
			t.Errorf("Fixed(%v) is %v, not %v", y.l, l, y.want)
		}
	}
	r := rand.New(rand.NewSource(1))
	for range 3000 {
		l := random(r, 5)
		if f := Fixed(l); !slices.Equal(f, fixed(l, 5)) {
			t.Fatalf("Fixed(%v) is %v, not %v", l, f, fixed(l, 5))
		}
	}
}

func TestP26_1Line(t *testing.T) {
	zigzag := line(7, 0, 0, 1, 0, 2, 1, 3, 0, 9, 0)
	for _, y := range []struct {
		x     api.Line
		fixed []api.Point
		limit int
		want  []api.Point
	}{
		{line(7, 0, 0, 1, 0, 2, 0), nil, 0, pts(0, 0, 2, 0)}, {line(7, 0, 0, 1, 0, 2, 0), pts(9, 9, 1, 0), 0, pts(0, 0, 1, 0, 2, 0)}, {line(7, 0, 0, 1, 0, 2, 0), nil, -1, pts(0, 0, 1, 0, 2, 0)},
		{zigzag, nil, 0, zigzag.Pts}, {zigzag, nil, 1, pts(0, 0, 2, 1, 3, 0, 9, 0)}, {zigzag, pts(3, 0), 100, pts(0, 0, 3, 0, 9, 0)}, {zigzag, nil, math.MaxInt, pts(0, 0, 9, 0)}, {zigzag, nil, math.MinInt, zigzag.Pts},
		// Both inner points bend by 4; without the first one the second one bends by 8.
		{line(7, 0, 0, 2, 0, 2, 2, 0, 4), nil, 4, pts(0, 0, 2, 2, 0, 4)},
		// Of points with different bends the flatter one is removed first, wherever it is.
		{line(7, 0, 0, 2, 0, 2, 2, 1, 5), nil, 4, pts(0, 0, 2, 0, 1, 5)},
		// A right and a left turn count alike.
		{line(7, 0, 4, 2, 4, 2, 2, 0, 0), nil, 4, pts(0, 4, 2, 2, 0, 0)},
		{api.Line{ID: 7}, nil, 9, nil}, {line(7, 3, 3), nil, 9, pts(3, 3)}, {line(7, 3, 3, 4, 4), nil, 9, pts(3, 3, 4, 4)},
		// There and back: the turning point does not bend.
		{line(7, 0, 0, 5, 0, 0, 0), nil, 0, pts(0, 0, 0, 0)}, {line(7, 0, 0, 0, 0, 4, 4), nil, 0, pts(0, 0, 4, 4)},
		// Points that are not in the grid may be fixed.
		{line(7, 0, 0, 1, 0, 2, 0), pts(-1, 0), 0, pts(0, 0, 2, 0)},
	} {
		x := Line(y.x, y.fixed, y.limit)
		if !slices.Equal(x.Pts, y.want) || x.ID != y.x.ID || !slices.Equal(x.Tags, y.x.Tags) || len(x.Nodes) != len(x.Pts) {
			t.Errorf("Line(%v, %v, %d) is %v, not %v", y.x, y.fixed, y.limit, x, y.want)
		}
	}
	if x := Line(zigzag, nil, 1); !slices.Equal(x.Nodes, []int{101, 103, 104, 105}) {
		t.Errorf("the nodes are %v", x.Nodes)
	}
	r := rand.New(rand.NewSource(2))
	for range 5000 {
		for _, x := range random(r, 3+r.Intn(6)) {
			keep, limit := pts(r.Intn(4), r.Intn(4), r.Intn(4), r.Intn(4)), r.Intn(12)-1
			if y, want := Line(x, keep, limit), thinned(x, keep, limit); !same(y, want) {
				t.Fatalf("Line(%v, %v, %d) is %v, not %v", x, keep, limit, y, want)
			}
		}
	}
}

func TestP26_1Unchanged(t *testing.T) {
	good := line(1, 0, 0, 1, 0, 2, 0)
	few, many, none := good, good, good
	few.Nodes, many.Nodes, none.Nodes = []int{1, 2}, []int{1, 2, 3, 4}, nil
	for _, x := range []api.Line{few, many, none, line(1, -1, 0, 1, 0, 2, 0), line(1, 0, 0, 1, -1, 2, 0), line(1, 0, 0, 1, 0, 2, 0, api.Side, 0), {Nodes: []int{3}}} {
		if y := Line(x, nil, 9); !same(x, y) {
			t.Errorf("Line(%v) is %v", x, y)
		}
		// Its points hold those of others.
		l := Lines([]api.Line{x, good}, 9)
		if len(l) != 2 || !same(l[0], x) || !same(l[1], thinned(good, Fixed([]api.Line{x, good}), 9)) {
			t.Errorf("Lines(%v) is %v", x, l)
		}
	}
}

func TestP26_1Lines(t *testing.T) {
	a, b := line(1, 0, 0, 1, 0, 2, 0, 3, 0), line(2, 2, 0, 5, 5)
	l := Lines([]api.Line{a, b}, 0)
	if len(l) != 2 || !slices.Equal(l[0].Pts, pts(0, 0, 2, 0, 3, 0)) || !slices.Equal(l[0].Nodes, []int{101, 103, 104}) || !same(l[1], b) {
		t.Errorf("Lines is %v", l)
	}
	if len(Lines(nil, 5)) != 0 {
		t.Error("Lines of none")
	}
	r := rand.New(rand.NewSource(3))
	for range 3000 {
		l, limit := random(r, 6), r.Intn(12)-1
		var want []api.Line
		for _, x := range l {
			want = append(want, thinned(x, fixed(l, 6), limit))
		}
		if out := Lines(l, limit); !slices.EqualFunc(out, want, same) {
			t.Fatalf("Lines(%v, %d) is %v, not %v", l, limit, out, want)
		}
	}
}

func TestP26_2Properties(t *testing.T) {
	r := rand.New(rand.NewSource(4))
	for range 3000 {
		l, limit := random(r, 6), r.Intn(30)
		out := Lines(l, limit)
		for i, x := range l {
			rest := out[i].Pts
			for _, p := range x.Pts {
				if len(rest) > 0 && rest[0] == p {
					rest = rest[1:]
				}
			}
			if len(rest) != 0 {
				t.Fatalf("%v is no part of %v in its order", out[i], x)
			}
			for j := range i {
				for _, p := range x.Pts {
					if slices.Contains(l[j].Pts, p) && !(slices.Contains(out[i].Pts, p) && slices.Contains(out[j].Pts, p)) {
						t.Fatalf("the lines %v do not share %v any more", l, p)
					}
				}
			}
		}
		if again := Lines(out, limit); !slices.EqualFunc(again, out, same) {
			t.Fatalf("Lines(%v, %d) is %v", out, limit, again)
		}
	}
}

// TestP26_Aliasing checks that the functions neither change their arguments nor return their memory.
func TestP26_Aliasing(t *testing.T) {
	give := func() ([]api.Line, []api.Point) {
		return []api.Line{line(1, 0, 0, 1, 0, 2, 0, 3, 0), {Pts: pts(0, 0, 1, 1), Tags: []api.Tag{{Key: "a"}}}}, pts(9, 9, 8, 8)
	}
	l, keep := give()
	spoil := func(x api.Line) {
		for i := range x.Pts {
			x.Pts[i] = api.Point{X: 77}
		}
		for i := range x.Nodes {
			x.Nodes[i] = 77
		}
		for i := range x.Tags {
			x.Tags[i] = api.Tag{Key: "77"}
		}
	}
	for _, x := range l {
		spoil(Line(x, keep, 5))
	}
	for _, x := range Lines(l, 5) {
		spoil(x)
	}
	if wantLines, wantKeep := give(); !reflect.DeepEqual(l, wantLines) || !slices.Equal(keep, wantKeep) {
		t.Errorf("the arguments became %v, %v", l, keep)
	}
}
