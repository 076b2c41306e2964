package sets

import (
	"math"
	"math/rand"
	"slices"
	"testing"
)

func TestP5_1Of(t *testing.T) {
	for _, x := range []struct{ l, want []int }{
		{[]int{3, 1, 3}, []int{1, 3}}, {nil, nil}, {[]int{}, nil}, {[]int{5}, []int{5}}, {[]int{2, 2, 2}, []int{2}}, {[]int{-1, 0, -5}, []int{-5, -1, 0}},
		{[]int{math.MaxInt, math.MinInt, 0, math.MaxInt}, []int{math.MinInt, 0, math.MaxInt}},
	} {
		if got := Of(x.l...); !slices.Equal(got, x.want) {
			t.Errorf("Of%v is %v", x.l, got)
		}
	}
}

func TestP5_1Operations(t *testing.T) {
	for _, x := range []struct{ a, b, union, inter, diff []int }{
		{[]int{1, 2, 3}, []int{2}, []int{1, 2, 3}, []int{2}, []int{1, 3}},
		{[]int{5, 1, 3, 1}, []int{4, 3, 3}, []int{1, 3, 4, 5}, []int{3}, []int{1, 5}},
		{nil, []int{2, 1}, []int{1, 2}, nil, nil}, {[]int{2, 1, 2}, nil, []int{1, 2}, nil, []int{1, 2}}, {nil, nil, nil, nil, nil},
		{[]int{1, 2}, []int{2, 1, 1}, []int{1, 2}, []int{1, 2}, nil},
		{[]int{math.MinInt, 0}, []int{math.MaxInt, 0}, []int{math.MinInt, 0, math.MaxInt}, []int{0}, []int{math.MinInt}},
	} {
		if got := Union(x.a, x.b); !slices.Equal(got, x.union) {
			t.Errorf("Union of %v and %v is %v", x.a, x.b, got)
		}
		if got := Inter(x.a, x.b); !slices.Equal(got, x.inter) {
			t.Errorf("Inter of %v and %v is %v", x.a, x.b, got)
		}
		if got := Diff(x.a, x.b); !slices.Equal(got, x.diff) {
			t.Errorf("Diff of %v and %v is %v", x.a, x.b, got)
		}
	}
}

func TestP5_1Reports(t *testing.T) {
	a := []int{5, 1, 3, 1}
	for _, x := range []int{5, 1, 3} {
		if !Has(a, x) {
			t.Errorf("Has(%v, %d) is false", a, x)
		}
	}
	for _, x := range []int{0, 2, 4, 6, math.MinInt, math.MaxInt} {
		if Has(a, x) || Has(nil, x) {
			t.Errorf("Has(%v, %d) is true", a, x)
		}
	}
	for _, x := range []struct {
		a, b      []int
		sub, same bool
	}{
		{nil, nil, true, true}, {nil, a, true, false}, {a, nil, false, false}, {[]int{3, 3}, a, true, false}, {[]int{1, 3, 5}, a, true, true}, {a, []int{3, 5, 1}, true, true},
		{a, []int{3, 4, 1}, false, false}, {[]int{6}, a, false, false}, {a, []int{1, 3, 5, 6}, true, false},
	} {
		if got := Sub(x.a, x.b); got != x.sub {
			t.Errorf("Sub(%v, %v) is %v", x.a, x.b, got)
		}
		if got := Same(x.a, x.b); got != x.same {
			t.Errorf("Same(%v, %v) is %v", x.a, x.b, got)
		}
	}
}

// General rule 5: arguments keep their elements, also beyond their length.
func TestP5_Aliasing(t *testing.T) {
	whole := []int{3, 1, 3, 2, 9, 8}
	a, b := whole[:3], whole[3:5]
	for i, got := range [][]int{Of(a...), Union(a, b), Inter(a, b), Diff(a, b), Of([]int{1, 2}...)} {
		for j := range got {
			got[j] = -1
		}
		_ = append(got, -1)
		if !slices.Equal(whole, []int{3, 1, 3, 2, 9, 8}) {
			t.Fatalf("result %d shares memory with an argument, or an argument was changed: %v", i, whole)
		}
	}
	sorted := []int{1, 2, 3}
	Of(sorted...)[0] = 7
	Union(sorted, nil)[0] = 7
	Diff(sorted, nil)[0] = 7
	Inter(sorted, sorted)[0] = 7
	if Has(a, 0) || Sub(a, b) || Same(a, b) || !slices.Equal(sorted, []int{1, 2, 3}) || !slices.Equal(whole, []int{3, 1, 3, 2, 9, 8}) {
		t.Error("an argument was changed")
	}
}

func randomList(r *rand.Rand) []int {
	l := make([]int, r.Intn(8))
	for i := range l {
		l[i] = r.Intn(10) - 5
	}
	return l
}

func TestP5_2Laws(t *testing.T) {
	r := rand.New(rand.NewSource(1))
	for range 5000 {
		a, b, c := randomList(r), randomList(r), randomList(r)
		for i, x := range [][2][]int{
			{Union(a, Union(b, c)), Union(Union(a, b), c)}, {Inter(a, Inter(b, c)), Inter(Inter(a, b), c)},
			{Union(a, b), Union(b, a)}, {Inter(a, b), Inter(b, a)}, {Union(a, a), Of(a...)}, {Inter(a, a), Of(a...)},
			{Inter(a, Union(b, c)), Union(Inter(a, b), Inter(a, c))}, {Inter(Diff(a, b), Inter(a, b)), nil}, {Union(Diff(a, b), Inter(a, b)), Of(a...)},
		} {
			if !slices.Equal(x[0], x[1]) {
				t.Fatalf("law %d does not hold for %v, %v, %v: %v, %v", i, a, b, c, x[0], x[1])
			}
		}
		for x := -6; x <= 6; x++ {
			inA, inB := slices.Contains(a, x), slices.Contains(b, x)
			if Has(a, x) != inA || Has(Of(a...), x) != inA || Has(Union(a, b), x) != (inA || inB) || Has(Inter(a, b), x) != (inA && inB) || Has(Diff(a, b), x) != (inA && !inB) {
				t.Fatalf("%d is wrongly in or out for %v, %v", x, a, b)
			}
		}
		if Sub(a, b) != slices.Equal(Union(a, b), Of(b...)) || Same(a, b) != (Sub(a, b) && Sub(b, a)) {
			t.Fatalf("Sub or Same is wrong for %v, %v", a, b)
		}
	}
}
