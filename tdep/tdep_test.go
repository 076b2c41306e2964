package tdep

import (
	"math"
	"math/rand"
	"reflect"
	"slices"
	"testing"

	"mapmaker/api"
	"mapmaker/contract"
	"mapmaker/custom"
	"mapmaker/dijkstra"
	"mapmaker/order"
	"mapmaker/schedule"
)

// of returns the graph with n vertices and the arcs from and to the vertices in turn.
func of(n int, ends ...int) api.Graph {
	g := api.Graph{N: n}
	for i := 0; i < len(ends); i += 2 {
		g.Arcs = append(g.Arcs, api.Arc{From: ends[i], To: ends[i+1]})
	}
	return g
}

func metric(t *testing.T, g api.Graph, w []int) *custom.Metric {
	t.Helper()
	h, err := contract.New(g, order.MinDegree(g))
	if h == nil || err != api.OK {
		t.Fatalf("contract.New(%v) returns %d", g, err)
	}
	m, err := custom.New(h, w)
	if m == nil || err != api.OK {
		t.Fatalf("custom.New(%v, %v) returns %d", g, w, err)
	}
	return m
}

// closedFrom is a schedule that is closed in these spans of minutes.
func closedFrom(l ...int) (s api.Schedule) {
	for i := 0; i < len(l); i += 2 {
		s.Closed = append(s.Closed, api.Span{From: l[i], To: l[i+1]})
	}
	return s
}

var (
	free   = api.Schedule{}
	noon   = closedFrom(60, 120)
	hourly = api.Schedule{First: 30, Every: 60}
	never  = closedFrom(0, api.Day)
)

func TestP45_1Check(t *testing.T) {
	one := of(2, 0, 1)
	for _, x := range []struct {
		name string
		g    api.Graph
		w    []int
		plan []api.Schedule
		want api.Errno
	}{
		{"nothing", of(0), nil, nil, api.OK},
		{"one arc", one, []int{1}, []api.Schedule{noon}, api.OK},
		{"a closed arc that is never open", one, []int{-1}, []api.Schedule{never}, api.OK},
		{"a negative number of vertices", api.Graph{N: -1}, []int{1}, nil, api.ErrLong},
		{"no such vertex", of(1, 0, 1), nil, nil, api.ErrRange},
		{"no weight", one, nil, nil, api.ErrWeight},
		{"a small weight", one, []int{-2}, nil, api.ErrWeight},
		{"a large weight", one, []int{api.MaxWeight + 1}, []api.Schedule{{Every: -1}}, api.ErrWeight},
		{"no schedule", one, []int{1}, nil, api.ErrShort},
		{"two schedules", one, []int{1}, []api.Schedule{free, free}, api.ErrShort},
		{"two schedules, both bad", one, []int{1}, []api.Schedule{{Every: -1}, {Every: -1}}, api.ErrShort},
		{"a schedule without arcs", of(1), nil, []api.Schedule{free}, api.ErrShort},
		{"nine spans", one, []int{1}, []api.Schedule{{Closed: make([]api.Span, 9)}}, api.ErrLong},
		{"a bad span", one, []int{1}, []api.Schedule{closedFrom(60, 60)}, api.ErrRange},
		{"spans in disorder", one, []int{1}, []api.Schedule{closedFrom(60, 70, 10, 20)}, api.ErrOrder},
		{"departures from no time on", one, []int{1}, []api.Schedule{{First: -1, Every: 5}}, api.ErrTime},
		{"a bad schedule of a closed arc", one, []int{-1}, []api.Schedule{{First: 1}}, api.ErrTime},
		{"the first bad schedule", of(2, 0, 1, 0, 1, 0, 1), []int{1, 1, 1}, []api.Schedule{noon, {First: 1}, closedFrom(60, 60)}, api.ErrTime},
		{"another first bad schedule", of(2, 0, 1, 0, 1, 0, 1), []int{1, 1, 1}, []api.Schedule{noon, closedFrom(60, 60), {First: 1}}, api.ErrRange},
	} {
		if got := Check(x.g, x.w, x.plan); got != x.want {
			t.Errorf("%s: Check is %d, not %d", x.name, got, x.want)
		}
		if x.want == api.OK {
			continue
		}
		for _, s := range []int{0, -1} {
			if l, err := From(x.g, x.w, x.plan, s, -1); len(l) != 0 || err != x.want {
				t.Errorf("%s: From is %v, %d, not %d", x.name, l, err, x.want)
			}
			if l, n, err := Route(x.g, x.w, x.plan, s, 0, -1); len(l) != 0 || n != 0 || err != x.want {
				t.Errorf("%s: Route is %v, %d, %d, not %d", x.name, l, n, err, x.want)
			}
			if n, ok := Arrive(x.g, x.w, x.plan, 0, 0, 0, nil); n != 0 || ok {
				t.Errorf("%s: Arrive is %d, %v", x.name, n, ok)
			}
		}
	}
}

func TestP45_1Arrive(t *testing.T) {
	g := of(4, 0, 1, 1, 2, 2, 0, 1, 2, 3, 3)
	w, plan := []int{5, 10, 0, -1, 3}, []api.Schedule{noon, hourly, free, free, never}
	for _, x := range []struct {
		s, t, at int
		path     []int
		want     int
		ok       bool
	}{
		{0, 1, 59, []int{0}, 64, true}, {0, 1, 60, []int{0}, 125, true}, {0, 1, 119, []int{0}, 125, true}, {0, 1, 120, []int{0}, 125, true}, {0, 1, 0, []int{0}, 5, true}, {0, 1, api.Day + 60, []int{0}, api.Day + 125, true}, {0, 1, api.MaxWeight, []int{0}, api.MaxWeight + 61, true},
		{1, 2, 31, []int{1}, 100, true}, {1, 2, 30, []int{1}, 40, true}, {1, 2, api.Day - 29, []int{1}, api.Day + 40, true}, {1, 2, api.Day - 30, []int{1}, api.Day - 20, true},
		{0, 2, 24, []int{0, 1}, 40, true}, {0, 2, 25, []int{0, 1}, 40, true}, {0, 2, 26, []int{0, 1}, 100, true}, {0, 2, 60, []int{0, 1}, 160, true}, {0, 0, 24, []int{0, 1, 2}, 40, true}, {0, 1, 20, []int{0, 1, 2, 0}, 45, true}, {0, 1, 26, []int{0, 1, 2, 0}, 125, true},
		{0, 0, 0, nil, 0, true}, {0, 0, 60, nil, 60, true}, {3, 3, api.MaxWeight, []int{}, api.MaxWeight, true},
		{0, 0, -1, nil, 0, false}, {0, 0, api.MaxWeight + 1, nil, 0, false}, {0, 1, -1, []int{0}, 0, false}, {0, 1, math.MinInt, []int{0}, 0, false}, {0, 1, math.MaxInt, []int{0}, 0, false},
		{3, 3, 0, []int{4}, 0, false}, {1, 2, 0, []int{3}, 0, false}, {0, 1, 0, nil, 0, false}, {0, 1, 0, []int{1}, 0, false}, {0, 2, 0, []int{0}, 0, false}, {0, 2, 0, []int{1}, 0, false}, {0, 2, 0, []int{0, 0, 1}, 0, false}, {1, 0, 0, []int{0}, 0, false},
		{0, 1, 0, []int{-1}, 0, false}, {0, 1, 0, []int{5}, 0, false}, {0, 1, 0, []int{0, math.MaxInt}, 0, false}, {0, 1, 0, []int{math.MinInt}, 0, false},
		{-1, -1, 0, nil, 0, false}, {4, 4, 0, nil, 0, false}, {math.MaxInt, math.MaxInt, 0, nil, 0, false}, {0, 4, 0, []int{0}, 0, false}, {-1, 1, 0, []int{0}, 0, false},
	} {
		if got, ok := Arrive(g, w, plan, x.s, x.t, x.at, x.path); got != x.want || ok != x.ok {
			t.Errorf("Arrive(%d, %d, %d, %v) is %d, %v, not %d, %v", x.s, x.t, x.at, x.path, got, ok, x.want, x.ok)
		}
	}
}

func TestP45_2Example(t *testing.T) {
	g, w := of(4, 0, 1, 1, 2, 0, 2, 2, 3), []int{5, 5, 50, 1}
	plan := []api.Schedule{free, noon, free, never}
	m := metric(t, g, w)
	for _, x := range []struct {
		at   int
		want []int
		path []int // to 2
	}{
		{0, []int{0, 5, 10, api.Inf}, []int{0, 1}}, {54, []int{54, 59, 64, api.Inf}, []int{0, 1}}, {55, []int{55, 60, 105, api.Inf}, []int{2}}, {74, []int{74, 79, 124, api.Inf}, []int{2}}, {76, []int{76, 81, 125, api.Inf}, []int{0, 1}}, {api.Day + 55, []int{api.Day + 55, api.Day + 60, api.Day + 105, api.Inf}, []int{2}},
	} {
		if got, err := From(g, w, plan, 0, x.at); !slices.Equal(got, x.want) || err != api.OK {
			t.Errorf("From at %d is %v, %d, not %v", x.at, got, err, x.want)
		}
		if got, n, err := Route(g, w, plan, 0, 2, x.at); !slices.Equal(got, x.path) || n != x.want[2] || err != api.OK {
			t.Errorf("Route at %d is %v, %d, %d, not %v, %d", x.at, got, n, err, x.path, x.want[2])
		}
		if got, n, err := Goal(m, plan, 0, 2, x.at); !slices.Equal(got, x.path) || n != x.want[2] || err != api.OK {
			t.Errorf("Goal at %d is %v, %d, %d, not %v, %d", x.at, got, n, err, x.path, x.want[2])
		}
	}
	// From 55 on, the vertices 0 and 1 could be on the way to 2 until its arrival.
	for _, x := range []struct{ s, t, at, want int }{{0, 2, 0, 0}, {0, 2, 55, 2}, {0, 2, 76, 2}, {0, 1, 60, 0}, {1, 2, 60, 1}, {2, 2, 60, 0}, {0, 3, 0, 0}, {3, 0, 0, 0}, {2, 3, 0, 0}} {
		if got := Settled(m, plan, x.s, x.t, x.at); got != x.want {
			t.Errorf("Settled(%d, %d, %d) is %d, not %d", x.s, x.t, x.at, got, x.want)
		}
	}
}

func TestP45_Errors(t *testing.T) {
	g, w := of(3, 0, 1, 2, 2), []int{5, 0}
	plan := []api.Schedule{free, free}
	m := metric(t, g, w)
	for _, x := range []struct {
		s, t, at    int
		from, route api.Errno
	}{
		{0, 1, 0, api.OK, api.OK}, {0, 1, api.MaxWeight, api.OK, api.OK}, {1, 1, 7, api.OK, api.OK}, {0, 2, 0, api.OK, api.ErrPath}, {1, 0, 0, api.OK, api.ErrPath},
		{-1, 0, 0, api.ErrRange, api.ErrRange}, {3, 0, -1, api.ErrRange, api.ErrRange}, {math.MinInt, 0, 0, api.ErrRange, api.ErrRange}, {math.MaxInt, 0, 0, api.ErrRange, api.ErrRange},
		{0, -1, 0, api.OK, api.ErrRange}, {0, 3, 0, api.OK, api.ErrRange}, {0, math.MaxInt, -1, api.ErrTime, api.ErrRange}, {0, math.MinInt, api.MaxWeight + 1, api.ErrTime, api.ErrRange},
		{0, 1, -1, api.ErrTime, api.ErrTime}, {0, 1, api.MaxWeight + 1, api.ErrTime, api.ErrTime}, {0, 2, -1, api.ErrTime, api.ErrTime}, {1, 0, math.MaxInt, api.ErrTime, api.ErrTime}, {1, 0, math.MinInt, api.ErrTime, api.ErrTime},
	} {
		if l, err := From(g, w, plan, x.s, x.at); err != x.from || err != api.OK && len(l) != 0 {
			t.Errorf("From(%d, %d) is %v, %d, not %d", x.s, x.at, l, err, x.from)
		}
		if l, n, err := Route(g, w, plan, x.s, x.t, x.at); err != x.route || err != api.OK && (len(l) != 0 || n != 0) {
			t.Errorf("Route(%d, %d, %d) is %v, %d, %d, not %d", x.s, x.t, x.at, l, n, err, x.route)
		}
		if l, n, err := Goal(m, plan, x.s, x.t, x.at); err != x.route || err != api.OK && (len(l) != 0 || n != 0) {
			t.Errorf("Goal(%d, %d, %d) is %v, %d, %d, not %d", x.s, x.t, x.at, l, n, err, x.route)
		}
		if l, n, err := Goal(nil, plan, x.s, x.t, x.at); err != api.ErrArg || len(l) != 0 || n != 0 {
			t.Errorf("Goal of no metric is %v, %d, %d", l, n, err)
		}
		if x.route != api.OK && Settled(m, plan, x.s, x.t, x.at) != 0 || Settled(nil, plan, x.s, x.t, x.at) != 0 {
			t.Errorf("Settled(%d, %d, %d) is not 0", x.s, x.t, x.at)
		}
	}
	for _, x := range []struct {
		plan []api.Schedule
		want api.Errno
	}{{nil, api.ErrShort}, {[]api.Schedule{{}, {First: 1}}, api.ErrTime}, {[]api.Schedule{closedFrom(5, 4), {First: 1}}, api.ErrRange}, {[]api.Schedule{{First: 1}}, api.ErrShort}} {
		if l, n, err := Goal(m, x.plan, 9, 9, -1); err != x.want || len(l) != 0 || n != 0 {
			t.Errorf("Goal with %v is %v, %d, %d, not %d", x.plan, l, n, err, x.want)
		}
		if got := Settled(m, x.plan, 0, 1, 0); got != 0 {
			t.Errorf("Settled with %v is %d", x.plan, got)
		}
	}
	if l, n, err := Goal(metric(t, of(0), nil), nil, 0, 0, 0); err != api.ErrRange || len(l) != 0 || n != 0 {
		t.Errorf("Goal without vertices is %v, %d, %d", l, n, err)
	}
}

// entered returns the first minute from t on at which the schedule is open, or Inf.
func entered(s api.Schedule, t int) int {
	for x := t; x < t+2*api.Day; x++ {
		if schedule.Open(s, x) {
			return x
		}
	}
	return api.Inf
}

// network is a graph with weights and schedules.
type network struct {
	g    api.Graph
	w    []int
	plan []api.Schedule
}

// arrivals follows all paths from s without repeated vertices and returns the earliest arrivals.
func (n network) arrivals(s, at int) []int {
	out := slices.Repeat([]int{api.Inf}, n.g.N)
	visited := make([]bool, n.g.N)
	var follow func(v, time int)
	follow = func(v, time int) {
		out[v] = min(out[v], time)
		visited[v] = true
		for i, a := range n.g.Arcs {
			if a.From != v || visited[a.To] || n.w[i] < 0 {
				continue
			}
			if x := entered(n.plan[i], time); x < api.Inf {
				follow(a.To, x+n.w[i])
			}
		}
		visited[v] = false
	}
	follow(s, at)
	return out
}

// distances returns the distances to t, lowered until none can be.
func (n network) distances(t int) []int {
	out := slices.Repeat([]int{api.Inf}, n.g.N)
	out[t] = 0
	for again := true; again; {
		again = false
		for i, a := range n.g.Arcs {
			if n.w[i] >= 0 && out[a.To] < api.Inf && out[a.To]+n.w[i] < out[a.From] {
				out[a.From], again = out[a.To]+n.w[i], true
			}
		}
	}
	return out
}

func (n network) settled(s, t, at int) int {
	arrivals, distances := n.arrivals(s, at), n.distances(t)
	count := 0
	for v := range n.g.N {
		if arrivals[v] < api.Inf && distances[v] < api.Inf && arrivals[t] < api.Inf && arrivals[v]+distances[v] < arrivals[t] {
			count++
		}
	}
	return count
}

func randomSchedule(r *rand.Rand) (s api.Schedule) {
	switch r.Intn(8) {
	case 0:
		return never
	case 1, 2:
		return free
	case 3:
		return api.Schedule{First: r.Intn(100), Every: []int{1, 7, 60, 500, math.MaxInt}[r.Intn(5)]}
	}
	from := 0
	for range 1 + r.Intn(3) {
		from += r.Intn(30)
		to := from + 1 + r.Intn(40)
		s.Closed, from = append(s.Closed, api.Span{From: from, To: to}), to
	}
	if r.Intn(2) == 0 {
		s.Every = 1 + r.Intn(20)
	}
	return s
}

func randomWeight(r *rand.Rand) int {
	return []int{-1, 0, 0, 1 + r.Intn(5), r.Intn(40), r.Intn(40), r.Intn(40), r.Intn(3 * api.Day), api.MaxWeight}[r.Intn(9)]
}

// random returns a network with loops and parallel arcs.
func random(r *rand.Rand) network {
	n := network{g: api.Graph{N: 1 + r.Intn(6)}}
	for range r.Intn(4 * n.g.N) {
		n.g.Arcs = append(n.g.Arcs, api.Arc{From: r.Intn(n.g.N), To: r.Intn(n.g.N)})
		n.w, n.plan = append(n.w, randomWeight(r)), append(n.plan, randomSchedule(r))
	}
	return n
}

// checkRoute fails unless the path, the arrival and the error are right for the earliest arrival.
func (n network) checkRoute(t *testing.T, name string, s, to, at, earliest int, path []int, arrival int, err api.Errno) {
	t.Helper()
	if earliest == api.Inf {
		if len(path) != 0 || arrival != 0 || err != api.ErrPath {
			t.Fatalf("%s from %d to %d at %d in %v is %v, %d, %d, but there is none", name, s, to, at, n, path, arrival, err)
		}
		return
	}
	v, time := s, at
	for _, arc := range path {
		if n.g.Arcs[arc].From != v || n.w[arc] < 0 {
			t.Fatalf("%s from %d to %d at %d in %v is %v", name, s, to, at, n, path)
		}
		v, time = n.g.Arcs[arc].To, entered(n.plan[arc], time)+n.w[arc]
	}
	if v != to || time != earliest || arrival != earliest || err != api.OK {
		t.Fatalf("%s from %d to %d at %d in %v is %v, %d, %d; it arrives at %d, not %d", name, s, to, at, n, path, arrival, err, time, earliest)
	}
	if got, ok := Arrive(n.g, n.w, n.plan, s, to, at, path); got != earliest || !ok {
		t.Fatalf("Arrive from %d to %d at %d in %v by %v is %d, %v, not %d", s, to, at, n, path, got, ok, earliest)
	}
}

func TestP45_ByDefinition(t *testing.T) {
	r := rand.New(rand.NewSource(1))
	found, unsettled := 0, 0
	for range 3000 {
		n := random(r)
		m := metric(t, n.g, n.w)
		s, at := r.Intn(n.g.N), []int{0, r.Intn(200), r.Intn(3 * api.Day), api.MaxWeight}[r.Intn(4)]
		want := n.arrivals(s, at)
		if got, err := From(n.g, n.w, n.plan, s, at); !slices.Equal(got, want) || err != api.OK {
			t.Fatalf("From(%d, %d) in %v is %v, %d, not %v", s, at, n, got, err, want)
		}
		for to := range n.g.N {
			path, arrival, err := Route(n.g, n.w, n.plan, s, to, at)
			n.checkRoute(t, "Route", s, to, at, want[to], path, arrival, err)
			path, arrival, err = Goal(m, n.plan, s, to, at)
			n.checkRoute(t, "Goal", s, to, at, want[to], path, arrival, err)
			if got := Settled(m, n.plan, s, to, at); got != n.settled(s, to, at) {
				t.Fatalf("Settled(%d, %d, %d) in %v is %d, not %d", s, to, at, n, got, n.settled(s, to, at))
			}
			if len(path) > 1 {
				found++
			}
			unsettled += n.settled(s, to, at)
		}
	}
	if found < 1000 || unsettled < 1000 {
		t.Errorf("there are %d paths and %d settled vertices only", found, unsettled)
	}
}

// P6 of DOC.md: the goal is found with the changed weights.
func TestP45_3Changes(t *testing.T) {
	r := rand.New(rand.NewSource(2))
	for range 200 {
		n := random(r)
		m := metric(t, n.g, n.w)
		for range len(n.w) {
			arc, weight := r.Intn(len(n.w)), randomWeight(r)
			n.w[arc] = weight
			m.Set([]int{arc}, []int{weight})
			s, to, at := r.Intn(n.g.N), r.Intn(n.g.N), r.Intn(300)
			path, arrival, err := Goal(m, n.plan, s, to, at)
			n.checkRoute(t, "Goal", s, to, at, n.arrivals(s, at)[to], path, arrival, err)
			if got := Settled(m, n.plan, s, to, at); got != n.settled(s, to, at) {
				t.Fatalf("Settled(%d, %d, %d) in %v is %d, not %d", s, to, at, n, got, n.settled(s, to, at))
			}
		}
	}
}

// streets returns a network of n by n vertices with arcs between neighbours in both directions.
func streets(r *rand.Rand, n int) network {
	out := network{g: api.Graph{N: n * n}}
	link := func(u, v int) {
		out.g.Arcs = append(out.g.Arcs, api.Arc{From: u, To: v})
		out.w = append(out.w, r.Intn(30))
		out.plan = append(out.plan, []api.Schedule{free, randomSchedule(r)}[r.Intn(2)])
	}
	for v := range n * n {
		if v%n+1 < n {
			link(v, v+1)
			link(v+1, v)
		}
		if v+n < n*n {
			link(v, v+n)
			link(v+n, v)
		}
	}
	return out
}

func TestP45_4Streets(t *testing.T) {
	r := rand.New(rand.NewSource(3))
	for range 5 {
		n := streets(r, 12)
		m := metric(t, n.g, n.w)
		for range 10 {
			s, to, at := r.Intn(n.g.N), r.Intn(n.g.N), r.Intn(api.Day)
			earliest, err := From(n.g, n.w, n.plan, s, at)
			if err != api.OK || earliest[s] != at {
				t.Fatalf("From(%d, %d) is %v, %d", s, at, earliest, err)
			}
			// No arc leads to an earlier arrival, and each is attained.
			for i, a := range n.g.Arcs {
				if earliest[a.From] < api.Inf && entered(n.plan[i], earliest[a.From])+n.w[i] < earliest[a.To] {
					t.Fatalf("From(%d, %d) has the arrival %d at %d, but the arc %d leads there earlier", s, at, earliest[a.To], a.To, i)
				}
			}
			path, arrival, err := Route(n.g, n.w, n.plan, s, to, at)
			n.checkRoute(t, "Route", s, to, at, earliest[to], path, arrival, err)
			path, arrival, err = Goal(m, n.plan, s, to, at)
			n.checkRoute(t, "Goal", s, to, at, earliest[to], path, arrival, err)
			// Who leaves later does not arrive earlier.
			later, _ := From(n.g, n.w, n.plan, s, at+r.Intn(200))
			for v := range later {
				if later[v] < earliest[v] {
					t.Fatalf("leaving %d after %d leads to %d at %d, not at %d", s, at, v, later[v], earliest[v])
				}
			}
			dist, _ := dijkstra.To(n.g, n.w, to)
			count := 0
			for v, x := range earliest {
				if earliest[to] < api.Inf && x+dist[v] < earliest[to] {
					count++
				}
			}
			if got := Settled(m, n.plan, s, to, at); got != count {
				t.Fatalf("Settled(%d, %d, %d) is %d, not %d", s, to, at, got, count)
			}
		}
	}
}

func TestP45_4Free(t *testing.T) {
	r := rand.New(rand.NewSource(4))
	for range 300 {
		n := random(r)
		for i := range n.plan {
			n.plan[i] = []api.Schedule{free, {Every: 1}}[r.Intn(2)]
		}
		s, at := r.Intn(n.g.N), r.Intn(5000)
		dist, _ := dijkstra.From(n.g, n.w, s)
		got, err := From(n.g, n.w, n.plan, s, at)
		if err != api.OK {
			t.Fatal(err)
		}
		for v, d := range dist {
			want := api.Inf
			if d < api.Inf {
				want = at + d
			}
			if got[v] != want {
				t.Fatalf("From(%d, %d) in %v is %v, but the distances are %v", s, at, n, got, dist)
			}
			if d < api.Inf && Settled(metric(t, n.g, n.w), n.plan, s, v, at) != 0 {
				t.Fatalf("Settled(%d, %d, %d) in %v is not 0", s, v, at, n)
			}
		}
	}
}

// In a chain of vertices with the greatest weights the arrivals are as late as possible.
func TestP45_2Chain(t *testing.T) {
	const n = 3000
	g := api.Graph{N: n}
	var w []int
	var plan []api.Schedule
	for v := range n - 1 {
		g.Arcs, w, plan = append(g.Arcs, api.Arc{From: v, To: v + 1}), append(w, api.MaxWeight), append(plan, api.Schedule{First: api.Day - 1, Every: api.Day})
	}
	want := slices.Repeat([]int{api.MaxWeight}, n)
	for v := range n - 1 {
		x := want[v]
		want[v+1] = x + (2*api.Day-1-x%api.Day)%api.Day + api.MaxWeight
	}
	if got, err := From(g, w, plan, 0, api.MaxWeight); !slices.Equal(got, want) || err != api.OK {
		t.Errorf("From is %v, %d, not %v", got, err, want)
	}
	path, arrival, err := Goal(metric(t, g, w), plan, 0, n-1, api.MaxWeight)
	if len(path) != n-1 || arrival != want[n-1] || err != api.OK {
		t.Errorf("Goal arrives at %d, %d, not at %d", arrival, err, want[n-1])
	}
	if got, ok := Arrive(g, w, plan, 0, n-1, api.MaxWeight, path); got != want[n-1] || !ok {
		t.Errorf("Arrive is %d, %v, not %d", got, ok, want[n-1])
	}
}

func TestP45_Aliasing(t *testing.T) {
	r := rand.New(rand.NewSource(5))
	n := streets(r, 6)
	m := metric(t, n.g, n.w)
	arcs, w, plan := slices.Clone(n.g.Arcs), slices.Clone(n.w), slices.Clone(n.plan)
	for i := range plan {
		plan[i].Closed = slices.Clone(plan[i].Closed)
	}
	first, _ := From(n.g, n.w, n.plan, 0, 50)
	path, arrival, err := Goal(m, n.plan, 0, 35, 50)
	again := slices.Clone(first)
	Route(n.g, n.w, n.plan, 0, 35, 50)
	Settled(m, n.plan, 0, 35, 50)
	if err == api.OK {
		Arrive(n.g, n.w, n.plan, 0, 35, 50, path)
	}
	if !slices.Equal(n.g.Arcs, arcs) || !slices.Equal(n.w, w) || !reflect.DeepEqual(n.plan, plan) || !slices.Equal(m.Weights(), w) {
		t.Error("an argument is changed")
	}
	clear(first)
	clear(path)
	if l, _ := From(n.g, n.w, n.plan, 0, 50); !slices.Equal(l, again) {
		t.Error("a result shares memory with others")
	}
	if _, x, e := Goal(m, n.plan, 0, 35, 50); x != arrival || e != err {
		t.Error("a path shares memory with the metric")
	}
}
