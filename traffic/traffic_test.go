package traffic

import (
	"math"
	"math/rand"
	"slices"
	"testing"

	"mapmaker/api"
	"mapmaker/classify"
)

func report(way, percent, since, until int) api.Report {
	return api.Report{Way: way, Percent: percent, Since: since, Until: until}
}

// network returns a network with a piece for each way and class in turn, of the given lengths.
func network(lens []int, ways ...int) api.Roads {
	r := api.Roads{Nodes: []int{10, 20}, At: make([]api.Point, 2)}
	for i, way := range ways {
		r.Pieces = append(r.Pieces, api.Piece{From: i % 2, To: 1 - i%2, Way: way, Len: lens[i], Class: 1 + i%6})
	}
	return r
}

// wrong returns networks that are not valid.
func wrong() []api.Roads {
	a, b, c := network([]int{5}, 1), network([]int{5}, 1), network([]int{5}, 1)
	a.At = nil
	b.Pieces[0].Class = 7
	c.Pieces[0].Plan.Every = -1
	return []api.Roads{a, b, c}
}

func TestP48_1Check(t *testing.T) {
	good := report(1, 100, 0, 1)
	long := slices.Repeat([]api.Report{good}, api.MaxObject+1)
	badLong := slices.Clone(long)
	badLong[0].Way = 0
	for _, x := range []struct {
		name string
		l    []api.Report
		want api.Errno
	}{
		{"none", nil, api.OK}, {"a good one", []api.Report{good}, api.OK},
		{"the smallest ones", []api.Report{report(1, 0, 0, 1)}, api.OK},
		{"the greatest ones", []api.Report{report(api.MaxID, 1000, api.MaxWeight-1, api.MaxWeight)}, api.OK},
		{"most reports", long[1:], api.OK}, {"too many", long, api.ErrLong}, {"too many with a bad one", badLong, api.ErrLong},
		{"way 0", []api.Report{report(0, 100, 0, 1)}, api.ErrRange}, {"a large way", []api.Report{good, report(api.MaxID+1, 100, 0, 1)}, api.ErrRange},
		{"way below 0", []api.Report{report(math.MinInt, 100, 0, 1)}, api.ErrRange},
		{"percent -1", []api.Report{report(1, -1, 0, 1)}, api.ErrRange}, {"percent 1001", []api.Report{report(1, 1001, 0, 1)}, api.ErrRange}, {"a large percentage", []api.Report{report(1, math.MaxInt, 0, 1)}, api.ErrRange},
		{"since -1", []api.Report{report(1, 100, -1, 1)}, api.ErrTime}, {"since MaxWeight", []api.Report{report(1, 100, api.MaxWeight, api.MaxWeight+1)}, api.ErrTime},
		{"since the smallest integer", []api.Report{report(1, 100, math.MinInt, 1)}, api.ErrTime},
		{"an empty time", []api.Report{report(1, 100, 4, 4)}, api.ErrTime}, {"an inverted time", []api.Report{report(1, 100, 4, 3)}, api.ErrTime},
		{"until MaxWeight + 1", []api.Report{report(1, 100, 4, api.MaxWeight+1)}, api.ErrTime}, {"until the greatest integer", []api.Report{report(1, 100, 4, math.MaxInt)}, api.ErrTime},
		{"a bad way with a bad time", []api.Report{report(0, 100, 4, 4)}, api.ErrRange}, {"a bad percentage with a bad time", []api.Report{report(1, 2000, 4, 4)}, api.ErrRange},
		{"a bad time before a bad way", []api.Report{report(1, 100, 4, 4), report(0, 100, 0, 1)}, api.ErrTime},
		{"a bad way before a bad time", []api.Report{report(0, 100, 0, 1), report(1, 100, 4, 4)}, api.ErrRange},
	} {
		if err := Check(x.l); err != x.want {
			t.Errorf("Check of %s is %d, not %d", x.name, err, x.want)
		}
	}
}

func TestP48_2Errors(t *testing.T) {
	r := network([]int{5, 6}, 1, 2)
	good, bad, late := []api.Report{report(1, 50, 0, 9)}, []api.Report{report(0, 50, 0, 9)}, []api.Report{report(1, 50, 9, 9)}
	type call struct {
		name string
		r    api.Roads
		a, b []api.Report
		at   int
		want api.Errno
	}
	calls := []call{
		{"good ones", r, good, good, 0, api.OK}, {"the last time", r, good, nil, api.MaxWeight, api.OK},
		{"a bad report", r, bad, good, 0, api.ErrRange}, {"a bad time of a report", r, late, bad, 0, api.ErrTime},
		{"a bad report and time", r, bad, late, -1, api.ErrRange},
		{"time -1", r, good, good, -1, api.ErrTime}, {"time -1 before bad reports", r, good, bad, -1, api.ErrTime}, {"a late time", r, good, good, api.MaxWeight + 1, api.ErrTime},
		{"the smallest time", r, nil, nil, math.MinInt, api.ErrTime}, {"the greatest time", r, nil, nil, math.MaxInt, api.ErrTime},
	}
	for _, x := range wrong() {
		calls = append(calls, call{"a bad network", x, good, good, 0, api.ErrArg}, call{"a bad network and report", x, bad, bad, -1, api.ErrArg})
	}
	for _, x := range calls {
		if w, err := Weights(x.r, x.a, x.at); err != x.want || (err == api.OK) != (len(w) == 2) {
			t.Errorf("Weights with %s returns %v, %d, not %d", x.name, w, err, x.want)
		}
		if p, w, err := Changed(x.r, x.a, x.b, x.at); err != x.want || err != api.OK && (len(p) > 0 || len(w) > 0) {
			t.Errorf("Changed with %s returns %v, %v, %d, not %d", x.name, p, w, err, x.want)
		}
	}
	// The errors of the second reports follow.
	for _, x := range []struct {
		b    []api.Report
		want api.Errno
	}{{bad, api.ErrRange}, {late, api.ErrTime}} {
		if p, w, err := Changed(r, good, x.b, 0); err != x.want || len(p) > 0 || len(w) > 0 {
			t.Errorf("Changed to %v returns %v, %v, %d", x.b, p, w, err)
		}
	}
}

func TestP48_2Examples(t *testing.T) {
	// The classes are 1 to 6.
	r := network([]int{160, 160, 7, 1, 0, api.MaxWeight / 16}, 1, 2, 3, 4, 5, 6)
	base := make([]int, 6)
	for i, p := range r.Pieces {
		base[i] = p.Len * classify.Speed(p.Class)
	}
	at := func(i, w int) []int {
		out := slices.Clone(base)
		out[i] = w
		return out
	}
	for _, x := range []struct {
		name string
		l    []api.Report
		want []int
	}{
		{"none", nil, base},
		{"percent 250 of 320", []api.Report{report(2, 250, 0, 9)}, at(1, 800)},
		{"percent 0", []api.Report{report(2, 0, 0, 9)}, at(1, -1)},
		{"percent 0 of 0", []api.Report{report(5, 0, 0, 9)}, at(4, -1)},
		{"percent 1000 of 0", []api.Report{report(5, 1000, 0, 9)}, at(4, 0)},
		{"percent 1", []api.Report{report(1, 1, 0, 9)}, at(0, base[0]/100)},
		{"rounded down to 0", []api.Report{report(4, 1, 0, 9)}, at(3, 0)},
		{"at most MaxWeight", []api.Report{report(6, 1000, 0, 9)}, at(5, api.MaxWeight)},
		{"percent 100", []api.Report{report(6, 100, 0, 9)}, base},
		{"from now", []api.Report{report(2, 250, 5, 6)}, at(1, 800)},
		{"until now", []api.Report{report(2, 250, 4, 5)}, base},
		{"from later", []api.Report{report(2, 250, 6, 9)}, base},
		{"the last one", []api.Report{report(2, 50, 0, 9), report(2, 250, 0, 9)}, at(1, 800)},
		{"the last one in effect", []api.Report{report(2, 250, 0, 9), report(2, 50, 6, 9), report(2, 50, 0, 5)}, at(1, 800)},
		{"the last one closes", []api.Report{report(2, 250, 0, 9), report(2, 0, 0, 9)}, at(1, -1)},
		{"the last one opens", []api.Report{report(2, 0, 0, 9), report(2, 100, 5, 9)}, base},
		{"another way", []api.Report{report(99, 0, 0, 9)}, base},
	} {
		if w, err := Weights(r, x.l, 5); err != api.OK || !slices.Equal(w, x.want) {
			t.Errorf("Weights with %s is %v, %d, not %v", x.name, w, err, x.want)
		}
	}
}

// random returns a network and reports about few ways and times.
func random(r *rand.Rand) (api.Roads, []api.Report, []api.Report) {
	var ways, lens []int
	for range r.Intn(8) {
		ways, lens = append(ways, 1+r.Intn(4)), append(lens, []int{0, 1, r.Intn(500), api.MaxWeight/16 - r.Intn(9)}[r.Intn(4)])
	}
	reports := func() (out []api.Report) {
		for range r.Intn(6) {
			since := r.Intn(6)
			out = append(out, report(1+r.Intn(5), []int{0, 100, r.Intn(1001)}[r.Intn(3)], since, since+1+r.Intn(5)))
		}
		return out
	}
	return network(lens, ways...), reports(), reports()
}

// weigh returns the weight of a piece, replaced by one report after the other.
func weigh(p api.Piece, l []api.Report, at int) int {
	base := p.Len * classify.Speed(p.Class)
	out := base
	for _, x := range l {
		if x.Way != p.Way || at < x.Since || at >= x.Until {
			continue
		}
		out = min(base*x.Percent/100, api.MaxWeight)
		if x.Percent == 0 {
			out = -1
		}
	}
	return out
}

func TestP48_2AllReports(t *testing.T) {
	r := rand.New(rand.NewSource(1))
	for range 20000 {
		n, a, b := random(r)
		at := r.Intn(12)
		got, err := Weights(n, a, at)
		if err != api.OK || len(got) != len(n.Pieces) {
			t.Fatalf("Weights(%v, %v, %d) is %v, %d", n, a, at, got, err)
		}
		var pieces, weights []int
		for i, p := range n.Pieces {
			if want := weigh(p, a, at); got[i] != want {
				t.Fatalf("Weights(%v, %v, %d) is %v; piece %d weighs %d", n, a, at, got, i, want)
			}
			if w := weigh(p, b, at); w != got[i] {
				pieces, weights = append(pieces, i), append(weights, w)
			}
		}
		if p, w, err := Changed(n, a, b, at); err != api.OK || !slices.Equal(p, pieces) || !slices.Equal(w, weights) {
			t.Fatalf("Changed(%v, %v, %v, %d) is %v, %v, %d, not %v, %v", n, a, b, at, p, w, err, pieces, weights)
		}
	}
}

func TestP48_3NotInEffect(t *testing.T) {
	r := rand.New(rand.NewSource(2))
	for range 5000 {
		n, a, _ := random(r)
		at := r.Intn(12)
		x := report(1+r.Intn(4), r.Intn(1001), at+1+r.Intn(5), at+9)
		if at > 0 && r.Intn(2) == 0 {
			x.Since, x.Until = r.Intn(at), at
		}
		b := slices.Insert(slices.Clone(a), r.Intn(len(a)+1), x)
		if p, w, err := Changed(n, a, b, at); err != api.OK || len(p) != 0 || len(w) != 0 {
			t.Fatalf("%v changes the pieces %v to %v at %d, %d", x, p, w, at, err)
		}
	}
}

func TestP48_3SettingTheChanged(t *testing.T) {
	r := rand.New(rand.NewSource(3))
	for range 5000 {
		n, a, b := random(r)
		at := r.Intn(12)
		w, _ := Weights(n, a, at)
		pieces, weights, _ := Changed(n, a, b, at)
		for i, p := range pieces {
			w[p] = weights[i]
		}
		if want, err := Weights(n, b, at); err != api.OK || !slices.Equal(w, want) {
			t.Fatalf("setting %v to %v leads to %v, not %v", pieces, weights, w, want)
		}
	}
}

func TestP48_Aliasing(t *testing.T) {
	n := network([]int{160, 160}, 1, 2)
	spare := []api.Report{report(1, 250, 0, 9), report(1, 0, 5, 9), report(2, 7, 0, 9)}
	pieces, saved := slices.Clone(n.Pieces), slices.Clone(spare)
	first, _ := Weights(n, spare[:2], 3)
	p, w, _ := Changed(n, nil, spare[:2], 3)
	if !slices.EqualFunc(n.Pieces, pieces, func(a, b api.Piece) bool { return a.Way == b.Way && a.Len == b.Len && a.Class == b.Class }) || !slices.Equal(spare, saved) {
		t.Error("an argument is changed")
	}
	want := slices.Clone(first)
	clear(spare)
	clear(p)
	clear(w)
	if again, _ := Weights(n, saved[:2], 3); !slices.Equal(first, want) || !slices.Equal(again, want) {
		t.Error("a result shares memory")
	}
}
