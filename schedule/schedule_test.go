package schedule

import (
	"math"
	"math/rand"
	"slices"
	"testing"

	"mapmaker/api"
)

// spans makes spans from pairs of minutes.
func spans(l ...int) []api.Span {
	var out []api.Span
	for i := 0; i+1 < len(l); i += 2 {
		out = append(out, api.Span{From: l[i], To: l[i+1]})
	}
	return out
}

func closed(l ...int) api.Schedule { return api.Schedule{Closed: spans(l...)} }

func TestP7_1Check(t *testing.T) {
	eight := []int{0, 1, 2, 3, 4, 5, 6, 7, 8, 9, 10, 11, 12, 13, 14, 15}
	for _, x := range []struct {
		s    api.Schedule
		want api.Errno
	}{
		{api.Schedule{}, api.OK}, {closed(60, 120), api.OK}, {closed(0, 1440), api.OK}, {closed(60, 120, 120, 130), api.OK}, {closed(eight...), api.OK},
		{closed(append(eight, 16, 17)...), api.ErrLong}, {closed(append(eight, -1, -2)...), api.ErrLong},
		{closed(-1, 5), api.ErrRange}, {closed(5, 5), api.ErrRange}, {closed(5, 4), api.ErrRange}, {closed(5, 1441), api.ErrRange}, {closed(1440, 1441), api.ErrRange}, {closed(1439, 1440), api.OK},
		{closed(60, 120, 119, 130), api.ErrOrder}, {closed(60, 120, 5, 9), api.ErrOrder}, {closed(5, 9, 8, 8), api.ErrRange}, {closed(60, 120, 119, 130, 7, 7), api.ErrOrder}, {closed(60, 120, 119, 1500), api.ErrRange},
		{api.Schedule{Every: -1}, api.ErrTime}, {api.Schedule{First: 1}, api.ErrTime}, {api.Schedule{First: -1}, api.ErrTime}, {api.Schedule{Every: 1, First: -1}, api.ErrTime}, {api.Schedule{Every: 1, First: 1440}, api.ErrTime},
		{api.Schedule{Every: -5, First: 3}, api.ErrTime}, {api.Schedule{Every: math.MinInt}, api.ErrTime}, {api.Schedule{Every: 1, First: math.MaxInt}, api.ErrTime},
		{api.Schedule{Every: 1}, api.OK}, {api.Schedule{Every: 1, First: 1439}, api.OK}, {api.Schedule{Every: math.MaxInt, First: 7}, api.OK}, {api.Schedule{Every: 1441, First: 7}, api.OK},
		{api.Schedule{Closed: spans(5, 5), Every: -1}, api.ErrRange}, {api.Schedule{Closed: spans(5, 6, 5, 6), Every: -1}, api.ErrOrder},
	} {
		if got := Check(x.s); got != x.want {
			t.Errorf("Check of %v is %d, not %d", x.s, got, x.want)
		}
	}
}

func TestP7_1Open(t *testing.T) {
	for _, x := range []struct {
		s    api.Schedule
		t    int
		want bool
	}{
		{closed(60, 120), 59, true}, {closed(60, 120), 60, false}, {closed(60, 120), 119, false}, {closed(60, 120), 120, true}, {closed(60, 120), 1500, false}, {closed(60, 120), 1440 + 59, true}, {closed(60, 120), 1440 + 120, true},
		{closed(60, 120, 130, 140), 125, true}, {closed(60, 120, 130, 140), 135, false}, {closed(60, 120, 130, 140), 140, true}, {closed(60, 120), -1, false}, {api.Schedule{}, -1, false}, {api.Schedule{}, math.MinInt, false}, {api.Schedule{}, math.MaxInt, true},
		{api.Schedule{First: 10, Every: 500}, 9, false}, {api.Schedule{First: 10, Every: 500}, 10, true}, {api.Schedule{First: 10, Every: 500}, 510, true}, {api.Schedule{First: 10, Every: 500}, 1010, true}, {api.Schedule{First: 10, Every: 500}, 1510, false}, {api.Schedule{First: 10, Every: 500}, 1450, true}, {api.Schedule{First: 10, Every: 500}, 511, false},
		{api.Schedule{First: 500, Every: 100}, 400, false}, {api.Schedule{First: 500, Every: 100}, 600, true}, {api.Schedule{First: 0, Every: 60, Closed: spans(60, 61)}, 60, false}, {api.Schedule{First: 0, Every: 60, Closed: spans(60, 61)}, 61, false}, {api.Schedule{First: 0, Every: 60, Closed: spans(60, 61)}, 120, true},
		{closed(5, 4), 100, false}, {api.Schedule{First: 1}, 1, false}, {api.Schedule{Every: math.MaxInt, First: 7}, 1440 + 7, true},
	} {
		if got := Open(x.s, x.t); got != x.want {
			t.Errorf("Open of %v at %d is %v", x.s, x.t, got)
		}
	}
}

func TestP7_2Next(t *testing.T) {
	ferry := api.Schedule{First: 10, Every: 500}
	for _, x := range []struct {
		s       api.Schedule
		t, want int
		ok      bool
	}{
		{closed(60, 120), 90, 120, true}, {closed(60, 120), 1500, 1560, true}, {closed(60, 120), 60, 120, true}, {closed(60, 120), 59, 59, true}, {closed(60, 120), 120, 120, true}, {closed(60, 120, 120, 130), 90, 130, true},
		{ferry, 0, 10, true}, {ferry, 10, 10, true}, {ferry, 11, 510, true}, {ferry, 1010, 1010, true}, {ferry, 1011, 1450, true}, {ferry, -7, 10, true}, {ferry, math.MinInt, 10, true},
		{api.Schedule{First: 30, Every: 60}, 31, 90, true}, {closed(0, 1440), 5, 0, false}, {closed(0, 1439), 1440, 2879, true}, {closed(1, 1440), 1, 1440, true}, {closed(0, 700, 700, 1440), 5, 0, false},
		{api.Schedule{First: 10, Every: 1440, Closed: spans(5, 15)}, 0, 0, false}, {api.Schedule{First: 10, Every: 1000, Closed: spans(5, 15)}, 1011, 1440 + 1010, true},
		{closed(5, 4), 100, 0, false}, {api.Schedule{First: 1}, 0, 0, false}, {api.Schedule{}, api.Inf, api.Inf, true}, {api.Schedule{}, api.Inf + 1, 0, false}, {api.Schedule{}, math.MaxInt, 0, false}, {api.Schedule{}, -1, 0, true},
	} {
		if got, ok := Next(x.s, x.t); got != x.want || ok != x.ok {
			t.Errorf("Next of %v at %d is %d, %v, not %d, %v", x.s, x.t, got, ok, x.want, x.ok)
		}
	}
	// Near Inf the next time may be above Inf.
	m := api.Inf % api.Day
	if got, ok := Next(api.Schedule{First: (m + 5) % api.Day, Every: api.Day}, api.Inf); got != api.Inf+5 || !ok {
		t.Errorf("Next at Inf is %d, %v", got, ok)
	}
}

func TestP7_2Free(t *testing.T) {
	for _, x := range []struct {
		s    api.Schedule
		want bool
	}{
		{api.Schedule{}, true}, {api.Schedule{Every: 1}, true}, {api.Schedule{Every: 1, First: 1}, false}, {api.Schedule{Every: 2}, false}, {closed(0, 1), false}, {closed(1439, 1440), false}, {closed(5, 4), false}, {api.Schedule{Every: -1}, false}, {api.Schedule{First: 1}, false}, {api.Schedule{Every: math.MaxInt}, false},
	} {
		if got := Free(x.s); got != x.want {
			t.Errorf("Free of %v is %v", x.s, got)
		}
	}
}

// randomSchedule returns a valid schedule.
func randomSchedule(r *rand.Rand) api.Schedule {
	var s api.Schedule
	cuts := make([]int, 2*r.Intn(5))
	for i := range cuts {
		cuts[i] = r.Intn(api.Day + 1)
	}
	slices.Sort(cuts)
	for i := 0; i < len(cuts); i += 2 {
		if cuts[i] < cuts[i+1] {
			s.Closed = append(s.Closed, api.Span{From: cuts[i], To: cuts[i+1]})
		}
	}
	if r.Intn(2) == 0 {
		s.First, s.Every = r.Intn(api.Day), 1+r.Intn(2*api.Day)
	}
	return s
}

// openByText is Open in the words of the chapter.
func openByText(s api.Schedule, t int) bool {
	m := t % api.Day
	for _, c := range s.Closed {
		for x := c.From; x < c.To; x++ {
			if x == m {
				return false
			}
		}
	}
	if s.Every == 0 {
		return true
	}
	for x := s.First; x < api.Day; x += s.Every {
		if x == m {
			return true
		}
	}
	return false
}

func TestP7_3Properties(t *testing.T) {
	r := rand.New(rand.NewSource(1))
	for range 100 {
		s := randomSchedule(r)
		if Check(s) != api.OK {
			t.Fatalf("%v is not valid", s)
		}
		free, next, some := true, 0, false
		for m := 2*api.Day - 1; m >= 0; m-- {
			open := openByText(s, m)
			if Open(s, m) != open {
				t.Fatalf("Open of %v at %d is not %v", s, m, open)
			}
			free = free && open
			if open {
				next, some = m, true
			}
			if m >= api.Day {
				continue
			}
			got, ok := Next(s, m)
			if ok != some || ok && (got != next || !Open(s, got) || got >= m+api.Day) || !ok && got != 0 {
				t.Fatalf("Next of %v at %d is %d, %v, not %d, %v", s, m, got, ok, next, some)
			}
		}
		if Free(s) != free {
			t.Fatalf("Free of %v is not %v", s, free)
		}
	}
}

func TestP7_3Monotonic(t *testing.T) {
	r := rand.New(rand.NewSource(2))
	for range 2000 {
		s := randomSchedule(r)
		a := r.Intn(5 * api.Day)
		b := a + r.Intn(2*api.Day)
		x, okA := Next(s, a)
		y, okB := Next(s, b)
		if okA != okB || x > y || okA && x < a {
			t.Fatalf("Next of %v is %d at %d and %d at %d", s, x, a, y, b)
		}
	}
}
