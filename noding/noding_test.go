package noding

import (
	"math"
	"math/rand"
	"slices"
	"testing"

	"mapmaker/api"
	"mapmaker/grid"
	"mapmaker/seg"
)

func s(x, y, u, v int) api.Seg {
	return api.Seg{A: api.Point{X: x, Y: y}, B: api.Point{X: u, Y: v}}
}

// ignored has segments that all functions ignore.
var ignored = []api.Seg{s(1, 1, 1, 1), s(-1, 0, 5, 5), s(5, 5, -1, 0), s(0, 0, api.Side, 0), s(0, api.Side, 0, 0), s(math.MinInt, math.MaxInt, 0, 0), s(-1, -1, -1, -1), s(-2, -2, api.Side, api.Side)}

// random returns n segments with coordinates below size in any direction, some of them ignored ones.
func random(r *rand.Rand, n, size int) (out []api.Seg) {
	for range n {
		x := s(r.Intn(size), r.Intn(size), r.Intn(size), r.Intn(size))
		if r.Intn(12) == 0 {
			x = ignored[r.Intn(len(ignored))]
		}
		out = append(out, x)
	}
	return out
}

// plain returns the segments that are not ignored, from the smaller to the greater end, in any order.
func plain(l []api.Seg) (out []api.Seg) {
	for _, x := range l {
		if grid.Valid(x.A) && grid.Valid(x.B) && x.A != x.B {
			out = append(out, seg.Of(x.A, x.B))
		}
	}
	return out
}

// sorted inserts the segments one by one.
func sorted(l []api.Seg) (out []api.Seg) {
	for _, x := range l {
		i := 0
		for i < len(out) && seg.Less(out[i], x) {
			i++
		}
		out = slices.Insert(out, i, x)
	}
	return out
}

func count(l []api.Seg, x api.Seg) (n int) {
	for _, y := range l {
		if x == y {
			n++
		}
	}
	return n
}

func TestP20_1Of(t *testing.T) {
	p := func(numbers ...int) (out []api.Point) {
		for i := 0; i < len(numbers); i += 2 {
			out = append(out, api.Point{X: numbers[i], Y: numbers[i+1]})
		}
		return out
	}
	for _, y := range []struct {
		l    []api.Point
		want []api.Seg
	}{
		{nil, nil}, {p(1, 2), nil}, {p(1, 2, 1, 2), nil},
		{p(3, 0, 1, 0, 1, 0, 2, 0), []api.Seg{s(1, 0, 3, 0), s(1, 0, 2, 0)}},
		{p(0, 0, 1, 0, 0, 0, 1, 0), []api.Seg{s(0, 0, 1, 0), s(0, 0, 1, 0), s(0, 0, 1, 0)}},
		// The line is not closed, and a point outside the grid takes both of its segments with it.
		{p(0, 0, 4, 0, 4, 4), []api.Seg{s(0, 0, 4, 0), s(4, 0, 4, 4)}},
		{p(0, 0, 4, 0, -1, 0, 4, 4, 5, 5), []api.Seg{s(0, 0, 4, 0), s(4, 4, 5, 5)}},
		{p(api.Side, 0, 1, 1), nil},
	} {
		if l := Of(y.l); !slices.Equal(l, y.want) {
			t.Errorf("Of(%v) is %v, not %v", y.l, l, y.want)
		}
	}
}

func TestP20_1Lists(t *testing.T) {
	r := rand.New(rand.NewSource(1))
	for range 3000 {
		l := random(r, r.Intn(9), 2+r.Intn(2))
		all := plain(l)
		var unique, odd []api.Seg
		for _, x := range sorted(all) {
			if slices.Contains(unique, x) {
				continue
			}
			unique = append(unique, x)
			if count(all, x)%2 == 1 {
				odd = append(odd, x)
			}
		}
		if !slices.Equal(Sort(l), sorted(all)) || !slices.Equal(Unique(l), unique) || !slices.Equal(Odd(l), odd) {
			t.Fatalf("for %v Sort is %v, Unique %v, Odd %v", l, Sort(l), Unique(l), Odd(l))
		}
	}
}

func TestP20_Ignored(t *testing.T) {
	if len(Sort(ignored)) != 0 || len(Unique(ignored)) != 0 || len(Odd(ignored)) != 0 || len(Split(ignored)) != 0 || len(Crossings(ignored)) != 0 || !Clean(ignored) || !Clean(nil) {
		t.Error("segments that are not ignored")
	}
	// They do not divide others either.
	l := append(slices.Clone(ignored), s(0, 0, 9, 9))
	if x := Split(l); !slices.Equal(x, []api.Seg{s(0, 0, 9, 9)}) || !Clean(l) {
		t.Errorf("Split is %v", x)
	}
}

// split divides each segment at its points that are ends, which it visits from one end to the other.
func split(l []api.Seg) (out []api.Seg) {
	all := plain(l)
	for _, x := range all {
		from := x.A
		for from != x.B {
			to := x.B
			for _, y := range all {
				for _, p := range []api.Point{y.A, y.B} {
					if seg.Within(p, from, to) {
						to = p
					}
				}
			}
			out = append(out, seg.Of(from, to))
			from = to
		}
	}
	return sorted(out)
}

func TestP20_2Split(t *testing.T) {
	for _, y := range []struct{ l, want []api.Seg }{
		{[]api.Seg{s(0, 0, 4, 0), s(2, 0, 2, 3)}, []api.Seg{s(0, 0, 2, 0), s(2, 0, 2, 3), s(2, 0, 4, 0)}},
		{[]api.Seg{s(6, 0, 0, 0), s(2, 0, 4, 0)}, []api.Seg{s(0, 0, 2, 0), s(2, 0, 4, 0), s(2, 0, 4, 0), s(4, 0, 6, 0)}},
		{[]api.Seg{s(5, 9, 5, 0), s(5, 3, 7, 3), s(5, 6, 1, 6)}, []api.Seg{s(1, 6, 5, 6), s(5, 0, 5, 3), s(5, 3, 5, 6), s(5, 3, 7, 3), s(5, 6, 5, 9)}},
		{[]api.Seg{s(0, 6, 6, 0), s(2, 4, 9, 9), s(4, 2, 0, 0)}, []api.Seg{s(0, 0, 4, 2), s(0, 6, 2, 4), s(2, 4, 4, 2), s(2, 4, 9, 9), s(4, 2, 6, 0)}},
		// A crossing at which no segment ends does not divide.
		{[]api.Seg{s(0, 0, 4, 4), s(0, 4, 4, 0)}, []api.Seg{s(0, 0, 4, 4), s(0, 4, 4, 0)}},
		{[]api.Seg{s(0, 0, 2, 0), s(2, 0, 0, 0)}, []api.Seg{s(0, 0, 2, 0), s(0, 0, 2, 0)}},
	} {
		if l := Split(y.l); !slices.Equal(l, y.want) {
			t.Errorf("Split(%v) is %v, not %v", y.l, l, y.want)
		}
	}
	r := rand.New(rand.NewSource(2))
	for range 3000 {
		l := random(r, r.Intn(9), 2+r.Intn(6))
		if x := Split(l); !slices.Equal(x, split(l)) {
			t.Fatalf("Split(%v) is %v, not %v", l, x, split(l))
		}
	}
}

func crossings(l []api.Seg) (out [][2]api.Seg) {
	unique := Unique(l)
	for _, a := range unique {
		for _, b := range unique {
			if k := seg.Relate(a, b); seg.Less(a, b) && (k == seg.Cross || k == seg.Overlap) {
				out = append(out, [2]api.Seg{a, b})
			}
		}
	}
	return out
}

func TestP20_2CrossingsClean(t *testing.T) {
	a, b, c := s(0, 0, 2, 2), s(0, 0, 4, 4), s(0, 4, 4, 0)
	if x := Crossings([]api.Seg{c, b, a, s(4, 4, 0, 0)}); !slices.Equal(x, [][2]api.Seg{{a, b}, {b, c}}) {
		t.Errorf("Crossings is %v", x)
	}
	for _, y := range []struct {
		l    []api.Seg
		want bool
	}{
		{[]api.Seg{a}, true}, {[]api.Seg{a, a}, true}, {[]api.Seg{a, s(2, 2, 0, 0)}, true}, {[]api.Seg{a, b}, false}, {[]api.Seg{b, c}, false}, {[]api.Seg{a, c}, false},
		{[]api.Seg{s(0, 0, 4, 0), s(2, 0, 2, 3)}, false}, {[]api.Seg{s(0, 0, 2, 0), s(2, 0, 2, 3), s(2, 0, 4, 0)}, true}, {[]api.Seg{s(0, 0, 1, 0), s(5, 5, 6, 6)}, true},
	} {
		if ok := Clean(y.l); ok != y.want {
			t.Errorf("Clean(%v) is %v", y.l, ok)
		}
	}
	r := rand.New(rand.NewSource(3))
	for range 4000 {
		l := random(r, r.Intn(7), 2+r.Intn(7))
		if x := Crossings(l); !slices.Equal(x, crossings(l)) {
			t.Fatalf("Crossings(%v) is %v, not %v", l, x, crossings(l))
		}
		want := slices.Equal(split(l), sorted(plain(l))) && len(crossings(l)) == 0
		if Clean(l) != want {
			t.Fatalf("Clean(%v) is %v", l, !want)
		}
	}
}

func TestP20_3Properties(t *testing.T) {
	r := rand.New(rand.NewSource(4))
	for range 2000 {
		l := random(r, r.Intn(9), 2+r.Intn(6))
		x := Split(l)
		if !slices.Equal(Split(x), x) {
			t.Fatalf("Split is not idempotent for %v", l)
		}
		ends := endsOf(proper(l))
		for i, a := range x {
			if !slices.Contains(ends, a.A) || !slices.Contains(ends, a.B) {
				t.Fatalf("an end of %v is not an end of %v", a, l)
			}
			for _, b := range x[:i] {
				k := seg.Relate(a, b)
				if a != b && k == seg.Overlap {
					t.Fatalf("%v and %v of Split(%v) overlap", a, b, l)
				}
				shared := a.A == b.A || a.A == b.B || a.B == b.A || a.B == b.B
				if a != b && Clean(x) && k != seg.Apart && !(k == seg.Touch && shared) {
					t.Fatalf("%v and %v of a Clean list have class %d", a, b, k)
				}
			}
		}
	}
}

// TestP20_Aliasing checks that the functions neither change their argument nor return its memory.
func TestP20_Aliasing(t *testing.T) {
	full := []api.Seg{s(4, 0, 0, 0), s(2, 0, 2, 3), s(0, 0, 1, 1), s(9, 9, 8, 8)}
	before := slices.Clone(full)
	l := full[:3]
	for _, out := range [][]api.Seg{Sort(l), Unique(l), Odd(l), Split(l)} {
		for i := range out {
			out[i] = api.Seg{}
		}
	}
	Crossings(l)
	Clean(l)
	if !slices.Equal(full, before) {
		t.Errorf("the segments became %v", full)
	}
}
