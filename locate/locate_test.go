package locate

import (
	"cmp"
	"math"
	"math/big"
	"math/rand"
	"slices"
	"testing"

	"mapmaker/api"
)

func at(x, y int) api.Point { return api.Point{X: x, Y: y} }

// ring returns the points whose X and Y are given in turn.
func ring(l ...int) (out []api.Point) {
	for i := 0; i < len(l); i += 2 {
		out = append(out, at(l[i], l[i+1]))
	}
	return out
}

func square(x, y, size int) []api.Point {
	return ring(x, y, x+size, y, x+size, y+size, x, y+size)
}

func ref(kind, id int) api.Ref { return api.Ref{Kind: kind, ID: id} }

func area(kind, id int, rings ...[]api.Point) api.Area {
	return api.Area{Ref: ref(kind, id), Theme: 9, Rings: rings}
}

func TestP36_1Where(t *testing.T) {
	a := area(3, 1, square(0, 0, 9), ring(2, 2, 2, 6, 6, 6, 6, 2), square(3, 3, 2))
	for _, x := range []struct{ x, y, want int }{
		{1, 1, api.Inside}, {5, 5, api.On}, {2, 3, api.On}, {6, 6, api.On}, {9, 9, api.On}, {0, 0, api.On}, {4, 4, api.Inside}, {3, 4, api.On},
		{30, 1, api.Outside}, {5, 10, api.Outside}, {8, 8, api.Inside}, {-1, 4, api.Outside}, {4, api.Side, api.Outside}, {math.MinInt, math.MaxInt, api.Outside},
	} {
		if got := Where(a, at(x.x, x.y)); got != x.want {
			t.Errorf("Where of %d %d is %d, not %d", x.x, x.y, got, x.want)
		}
	}
	hole := area(3, 1, square(0, 0, 9), ring(2, 2, 2, 6, 6, 6, 6, 2))
	if Where(hole, at(4, 4)) != api.Outside || Where(hole, at(2, 4)) != api.On || Where(hole, at(1, 4)) != api.Inside {
		t.Error("Where in a hole, on its border and beside it")
	}
	// Rings that are none do not count.
	odd := area(3, 1, nil, ring(0, 0, 9, 9), square(0, 0, api.Side), square(0, 0, 9))
	if Where(odd, at(4, 4)) != api.Inside || Where(api.Area{}, at(4, 4)) != api.Outside {
		t.Error("Where with rings that are none")
	}
}

func TestP36_1NewErrors(t *testing.T) {
	good, twice := area(2, 7, square(0, 0, 9)), area(2, 7, square(1, 1, 3))
	many := make([]api.Area, api.MaxObject+1)
	for i := range many {
		many[i] = area(2, i+1, square(i, i, 3))
	}
	withShort := append(slices.Clone(many), area(1, 1))
	for _, x := range []struct {
		name string
		l    []api.Area
		fan  int
		want api.Errno
	}{
		{"none", nil, 2, api.OK},
		{"one", []api.Area{good}, 2, api.OK},
		{"fan 16", []api.Area{good}, 16, api.OK},
		{"fan 17", []api.Area{good}, 17, api.ErrArg},
		{"fan 1", []api.Area{good}, 1, api.ErrArg},
		{"the smallest fan", []api.Area{good}, math.MinInt, api.ErrArg},
		{"no rings", []api.Area{good, area(2, 8)}, 2, api.ErrShort},
		{"a ring without points", []api.Area{good, area(2, 8, square(0, 0, 3), nil)}, 2, api.ErrShort},
		{"a ring of two points", []api.Area{good, area(2, 8, ring(0, 0, 3, 3))}, 2, api.ErrShort},
		{"a point beyond the grid", []api.Area{good, area(2, 8, ring(0, 0, 3, 3, 0, api.Side))}, 2, api.ErrShort},
		{"a negative point in the second ring", []api.Area{good, area(2, 8, square(0, 0, 3), ring(-1, 0, 3, 3, 0, 5))}, 2, api.ErrShort},
		{"far beyond the grid", []api.Area{area(2, 8, ring(math.MinInt, math.MaxInt, 3, 3, 0, 5))}, 2, api.ErrShort},
		{"the whole grid", []api.Area{area(2, 8, square(0, 0, api.Side-1))}, 2, api.OK},
		{"twice", []api.Area{good, twice}, 2, api.ErrTwice},
		{"short before the fan", []api.Area{good, area(2, 8)}, 1, api.ErrShort},
		{"short before twice", []api.Area{good, twice, area(2, 8)}, 2, api.ErrShort},
		{"the fan before twice", []api.Area{good, twice}, 1, api.ErrArg},
		{"too many", many, 8, api.ErrLong},
		{"short before too many", withShort, 8, api.ErrShort},
		{"the fan before too many", many, 0, api.ErrArg},
		{"as many as possible", many[1:], 8, api.OK},
		{"other kinds", []api.Area{area(0, 0, square(0, 0, 3)), area(-5, math.MinInt, square(0, 0, 3)), area(9, math.MaxInt, square(0, 0, 3))}, 3, api.OK},
		{"no area", []api.Area{area(2, 8, ring(0, 0, 3, 3, 6, 6))}, 2, api.OK},
	} {
		got, err := New(x.l, x.fan)
		if err != x.want || (got == nil) != (err != api.OK) {
			t.Errorf("New of %s returns %d, not %d", x.name, err, x.want)
		}
		if err == api.OK && got.Len() != len(x.l) {
			t.Errorf("Len of %s is %d", x.name, got.Len())
		}
	}
}

func TestP36_1At(t *testing.T) {
	l := []api.Area{
		area(3, 1, square(0, 0, 9), ring(2, 2, 2, 6, 6, 6, 6, 2)), area(2, 7, ring(4, 4, 20, 4, 20, 8)), area(2, 3, square(0, 0, 9)),
		area(3, 5, square(20, 20, 5), square(40, 40, 5)), area(1, 9, ring(50, 50, 52, 52, 54, 54)),
	}
	x, err := New(l, 2)
	if err != api.OK {
		t.Fatal(err)
	}
	for _, c := range []struct {
		p    api.Point
		want []api.Ref
	}{
		{at(9, 5), []api.Ref{ref(2, 3), ref(2, 7), ref(3, 1)}},
		{at(4, 4), []api.Ref{ref(2, 3), ref(2, 7)}},
		{at(1, 1), []api.Ref{ref(2, 3), ref(3, 1)}},
		{at(0, 0), []api.Ref{ref(2, 3), ref(3, 1)}},
		{at(5, 8), []api.Ref{ref(2, 3), ref(3, 1)}},
		{at(22, 22), []api.Ref{ref(3, 5)}},
		{at(45, 45), []api.Ref{ref(3, 5)}},
		{at(30, 30), nil},
		{at(52, 52), []api.Ref{ref(1, 9)}},
		{at(52, 53), nil},
		{at(-1, 5), nil},
		{at(5, -1), nil},
		{at(api.Side, 5), nil},
		{at(math.MinInt, math.MaxInt), nil},
	} {
		if got := x.At(c.p); !slices.Equal(got, c.want) {
			t.Errorf("At(%v) is %v, not %v", c.p, got, c.want)
		}
	}
	last := api.Side - 1
	whole, _ := New([]api.Area{area(2, 1, square(0, 0, last))}, 2)
	if got := whole.At(at(last, last)); !slices.Equal(got, []api.Ref{ref(2, 1)}) {
		t.Errorf("At the last point is %v", got)
	}
	if got := whole.At(at(last+1, last+1)); len(got) > 0 {
		t.Errorf("At beyond the last point is %v", got)
	}
}

func TestP36_1Nil(t *testing.T) {
	var x *Index
	if x.Len() != 0 || len(x.At(at(1, 1))) != 0 {
		t.Error("a nil index is not empty")
	}
	empty, err := New(nil, 4)
	if err != api.OK || empty.Len() != 0 || len(empty.At(at(1, 1))) != 0 {
		t.Error("an index of no areas is not empty")
	}
}

// whereByRatios is the position of p relative to the rings, with the crossings computed as fractions.
func whereByRatios(rings [][]api.Point, p api.Point) int {
	count := 0
	for _, r := range rings {
		for i, a := range r {
			b := r[(i+1)%len(r)]
			if a == p {
				return api.On
			}
			if a.Y == b.Y {
				if p.Y == a.Y && min(a.X, b.X) <= p.X && p.X <= max(a.X, b.X) {
					return api.On
				}
				continue
			}
			if p.Y < min(a.Y, b.Y) || p.Y > max(a.Y, b.Y) {
				continue
			}
			x := big.NewRat(int64((p.Y-a.Y)*(b.X-a.X)), int64(b.Y-a.Y))
			x.Add(x, big.NewRat(int64(a.X-p.X), 1))
			if x.Sign() == 0 {
				return api.On
			}
			if x.Sign() > 0 && (a.Y > p.Y) != (b.Y > p.Y) {
				count++
			}
		}
	}
	return []int{api.Outside, api.Inside}[count%2]
}

// randomAreas returns areas of one to three rings, some of them small, with references in any order.
func randomAreas(r *rand.Rand, size int) []api.Area {
	var out []api.Area
	for i := range r.Intn(40) {
		a := area(1+r.Intn(3), i)
		for range 1 + r.Intn(3) {
			x, y, reach := r.Intn(size), r.Intn(size), []int{3, size}[r.Intn(2)]
			var pts []api.Point
			for range 3 + r.Intn(4) {
				pts = append(pts, at(min(x+r.Intn(reach), size-1), min(y+r.Intn(reach), size-1)))
			}
			a.Rings = append(a.Rings, pts)
		}
		out = append(out, a)
	}
	r.Shuffle(len(out), func(i, j int) { out[i], out[j] = out[j], out[i] })
	return out
}

func TestP36_2BySearch(t *testing.T) {
	r := rand.New(rand.NewSource(1))
	found := 0
	for i := range 300 {
		size := []int{16, 300, api.Side}[i%3]
		l := randomAreas(r, size)
		x, err := New(l, 2+r.Intn(15))
		if err != api.OK {
			t.Fatal(err)
		}
		for range 60 {
			p := at(r.Intn(size), r.Intn(size))
			if len(l) > 0 && r.Intn(4) == 0 {
				p = l[r.Intn(len(l))].Rings[0][r.Intn(3)]
			}
			var want []api.Ref
			for _, a := range l {
				w := whereByRatios(a.Rings, p)
				if got := Where(a, p); got != w {
					t.Fatalf("Where(%v, %v) is %d, not %d", a, p, got, w)
				}
				if w != api.Outside {
					want = append(want, a.Ref)
				}
			}
			slices.SortFunc(want, func(a, b api.Ref) int { return cmp.Or(cmp.Compare(a.Kind, b.Kind), cmp.Compare(a.ID, b.ID)) })
			if got := x.At(p); !slices.Equal(got, want) {
				t.Fatalf("At(%v) of %v is %v, not %v", p, l, got, want)
			}
			found += len(want)
		}
	}
	if found < 10000 {
		t.Errorf("only %d areas were found", found)
	}
}

func TestP36_Aliasing(t *testing.T) {
	pts := append(square(0, 0, 9), at(77, 77))
	l := []api.Area{area(2, 7, pts[:4]), area(2, 8, square(0, 0, 4)), area(2, 9, nil)}
	x, err := New(l[:2], 2)
	if err != api.OK {
		t.Fatal(err)
	}
	Where(l[0], at(1, 1))
	got := x.At(at(3, 3))
	_ = append(got, ref(5, 5))
	got[0] = ref(4, 4)
	if pts[4] != at(77, 77) || l[2].Ref != ref(2, 9) || !slices.Equal(pts[:4], square(0, 0, 9)) {
		t.Error("an argument is changed")
	}
	clear(pts)
	l[1].Rings[0] = nil
	clear(l)
	if got := x.At(at(3, 3)); !slices.Equal(got, []api.Ref{ref(2, 7), ref(2, 8)}) || x.Len() != 2 {
		t.Errorf("the index shares memory: At is %v", got)
	}
}
