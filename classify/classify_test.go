package classify

import (
	"math"
	"slices"
	"testing"

	"mapmaker/api"
)

// of returns the tags with these keys and values in turn.
func of(l ...string) (out []api.Tag) {
	for i := 0; i < len(l); i += 2 {
		out = append(out, api.Tag{Key: l[i], Val: l[i+1]})
	}
	return out
}

func TestP18_1Theme(t *testing.T) {
	for _, y := range []struct {
		l    []api.Tag
		want int
	}{
		{nil, api.NoTheme},
		{of("natural", "water"), api.Water},
		{of("natural", "wood"), api.NoTheme}, {of("natural", ""), api.NoTheme}, {of("water", "natural"), api.NoTheme}, {of("natural", "Water"), api.NoTheme},
		{of("building", "yes"), api.Building}, {of("building", ""), api.Building}, {of("building", "NO"), api.Building},
		{of("building", "no"), api.NoTheme}, {of("building", "no", "landuse", "farm"), api.Land},
		{of("landuse", "farm"), api.Land}, {of("landuse", ""), api.Land}, {of("landuse", "no"), api.Land},
		{of("highway", "primary"), api.Road}, {of("highway", "path"), api.NoTheme}, {of("route", "ferry"), api.Road}, {of("highway", "path", "route", "ferry"), api.NoTheme},
		{of("boundary", "admin"), api.Border}, {of("boundary", ""), api.Border}, {of("boundary", "no"), api.Border},
		{of("place", "city"), api.Settle}, {of("place", ""), api.Settle}, {of("place", "no"), api.Settle},
		{of("name", "x", "area", "yes"), api.NoTheme}, {of("", ""), api.NoTheme},
		// The first tag with a key counts.
		{of("natural", "wood", "natural", "water"), api.NoTheme}, {of("building", "no", "building", "yes"), api.NoTheme},
	} {
		if n := Theme(y.l); n != y.want {
			t.Errorf("Theme(%v) is %d, not %d", y.l, n, y.want)
		}
	}
}

// The tags of the themes in the order in which they are considered.
var inOrder = []struct {
	tag   api.Tag
	theme int
	zoom  int
}{
	{api.Tag{Key: "natural", Val: "water"}, api.Water, 0},
	{api.Tag{Key: "building", Val: "yes"}, api.Building, 6},
	{api.Tag{Key: "landuse", Val: "farm"}, api.Land, 2},
	{api.Tag{Key: "highway", Val: "secondary"}, api.Road, 4},
	{api.Tag{Key: "boundary", Val: "admin"}, api.Border, 0},
	{api.Tag{Key: "place", Val: "town"}, api.Settle, 3},
}

func TestP18_1FirstTheme(t *testing.T) {
	for chosen := range 1 << len(inOrder) {
		theme, zoom := api.NoTheme, api.MaxZoom+1
		var l []api.Tag
		for i := len(inOrder) - 1; i >= 0; i-- {
			if chosen>>i&1 == 1 {
				theme, zoom = inOrder[i].theme, inOrder[i].zoom
				l = append(l, inOrder[i].tag)
			}
		}
		for range 2 {
			if Theme(l) != theme || MinZoom(l) != zoom {
				t.Errorf("Theme and MinZoom of %v are %d, %d", l, Theme(l), MinZoom(l))
			}
			slices.Reverse(l)
		}
	}
}

func TestP18_1MinZoom(t *testing.T) {
	for _, y := range []struct {
		l    []api.Tag
		want int
	}{
		{nil, 8}, {of("natural", "wood"), 8}, {of("highway", "path"), 8}, {of("building", "no"), 8},
		{of("natural", "water"), 0}, {of("building", "yes"), 6}, {of("landuse", "farm"), 2},
		{of("highway", "motorway"), 0}, {of("highway", "primary"), 2}, {of("highway", "secondary"), 4}, {of("highway", "residential"), 5}, {of("highway", "track"), 5}, {of("route", "ferry"), 5},
		{of("boundary", "admin"), 0},
		{of("place", "city"), 0}, {of("place", "town"), 3}, {of("place", "village"), 5}, {of("place", "hamlet"), 6}, {of("place", ""), 6}, {of("place", "no"), 6}, {of("place", "City"), 6},
		{of("place", "hamlet", "place", "city"), 6}, {of("place", "city", "place", "hamlet"), 0},
		{of("boundary", "admin", "place", "village"), 0}, {of("landuse", "farm", "highway", "motorway"), 2},
	} {
		if n := MinZoom(y.l); n != y.want {
			t.Errorf("MinZoom(%v) is %d, not %d", y.l, n, y.want)
		}
	}
}

func TestP18_1IsArea(t *testing.T) {
	for _, y := range []struct {
		l              []api.Tag
		plain, yes, no bool
	}{
		{nil, false, false, false},
		{of("natural", "water"), true, true, false},
		{of("building", "yes"), true, true, false},
		{of("landuse", "farm"), true, true, false},
		{of("highway", "primary"), false, false, false},
		{of("route", "ferry"), false, false, false},
		{of("boundary", "admin"), false, true, false},
		{of("place", "city"), false, false, false},
		{of("boundary", "admin", "landuse", "farm"), true, true, false},
		{of("boundary", "admin", "highway", "track"), false, false, false},
	} {
		if IsArea(y.l) != y.plain || IsArea(append(of("area", "yes"), y.l...)) != y.yes || IsArea(append(of("area", "no"), y.l...)) != y.no {
			t.Errorf("IsArea with %v is wrong", y.l)
		}
		// Another value is neither yes nor no.
		for _, val := range []string{"", "maybe", "YES", "No"} {
			if IsArea(append(of("area", val), y.l...)) != y.plain {
				t.Errorf("IsArea with %v and area=%q is wrong", y.l, val)
			}
		}
	}
	if IsArea(of("area", "no", "area", "yes", "landuse", "x")) || !IsArea(of("area", "yes", "area", "no", "landuse", "x")) {
		t.Error("the first tag with the key area does not count")
	}
}

func TestP18_2Class(t *testing.T) {
	for _, y := range []struct {
		l    []api.Tag
		want int
	}{
		{nil, 0},
		{of("highway", "motorway"), 1}, {of("highway", "primary"), 2}, {of("highway", "secondary"), 3}, {of("highway", "residential"), 4}, {of("highway", "track"), 5},
		{of("highway", "path"), 0}, {of("highway", ""), 0}, {of("highway", "Primary"), 0}, {of("highway", "primary "), 0}, {of("highways", "primary"), 0}, {of("highway", "ferry"), 0},
		{of("route", "ferry"), 6}, {of("route", "bus"), 0}, {of("route", ""), 0}, {of("route", "primary"), 0},
		{of("highway", "path", "route", "ferry"), 0}, {of("highway", "", "route", "ferry"), 0}, {of("highway", "track", "route", "ferry"), 5}, {of("route", "ferry", "highway", "no"), 0},
		{of("highway", "track", "highway", "primary"), 5}, {of("route", "bus", "route", "ferry"), 0}, {of("landuse", "farm", "highway", "track"), 5},
	} {
		if n := Class(y.l); n != y.want {
			t.Errorf("Class(%v) is %d, not %d", y.l, n, y.want)
		}
	}
}

func TestP18_2Speed(t *testing.T) {
	for class, want := range map[int]int{1: 1, 2: 2, 3: 3, 4: 5, 5: 8, 6: 10, 0: 0, 7: 0, -1: 0, 100: 0, math.MaxInt: 0, math.MinInt: 0} {
		if n := Speed(class); n != want {
			t.Errorf("Speed(%d) is %d, not %d", class, n, want)
		}
	}
}

func TestP18_2Oneway(t *testing.T) {
	for _, y := range []struct {
		l    []api.Tag
		want int
	}{
		{nil, 0},
		{of("oneway", "yes"), 1}, {of("oneway", "no"), 0}, {of("oneway", "-1"), -1}, {of("oneway", ""), 0}, {of("oneway", "1"), 0}, {of("oneway", "true"), 0}, {of("oneway", "Yes"), 0},
		{of("highway", "motorway"), 1}, {of("highway", "primary"), 0}, {of("highway", ""), 0}, {of("route", "ferry"), 0},
		{of("highway", "motorway", "oneway", "no"), 0}, {of("highway", "motorway", "oneway", "-1"), -1}, {of("highway", "motorway", "oneway", "yes"), 1}, {of("highway", "motorway", "oneway", ""), 0},
		{of("highway", "primary", "oneway", "yes"), 1}, {of("highway", "track", "oneway", "-1"), -1},
		{of("oneway", "no", "oneway", "yes"), 0}, {of("oneway", "-1", "oneway", "yes"), -1}, {of("highway", "track", "highway", "motorway"), 0},
	} {
		if n := Oneway(y.l); n != y.want {
			t.Errorf("Oneway(%v) is %d, not %d", y.l, n, y.want)
		}
	}
}

func TestP18_2Name(t *testing.T) {
	for _, y := range []struct {
		l    []api.Tag
		want string
	}{{nil, ""}, {of("name", "Elm"), "Elm"}, {of("a", "b", "name", "\xff"), "\xff"}, {of("Name", "Elm"), ""}, {of("name", "a", "name", "b"), "a"}, {of("place", "name"), ""}, {of("name", ""), ""}} {
		if s := Name(y.l); s != y.want {
			t.Errorf("Name(%v) is %q, not %q", y.l, s, y.want)
		}
	}
}

// answers has all results for a list of tags.
type answers struct {
	theme, zoom int
	area        bool
	class, way  int
	name        string
}

func all(l []api.Tag) answers {
	return answers{Theme(l), MinZoom(l), IsArea(l), Class(l), Oneway(l), Name(l)}
}

// lists returns all lists of at most one tag for each of the keys that matter.
func lists() [][]api.Tag {
	out := [][]api.Tag{nil}
	for _, y := range []struct {
		key    string
		values []string
	}{
		{"natural", []string{"water", "wood"}}, {"building", []string{"yes", "no"}}, {"landuse", []string{"farm"}}, {"highway", []string{"motorway", "track", "path"}},
		{"route", []string{"ferry"}}, {"boundary", []string{"admin"}}, {"place", []string{"city", "hamlet"}}, {"area", []string{"yes", "no"}}, {"oneway", []string{"yes", "-1"}}, {"name", []string{"x"}},
	} {
		for _, l := range slices.Clone(out) {
			for _, val := range y.values {
				out = append(out, append(slices.Clone(l), api.Tag{Key: y.key, Val: val}))
			}
		}
	}
	return out
}

func TestP18_3OtherKeys(t *testing.T) {
	other := of("", "water", "Natural", "water", "buildings", "yes", "ref", "motorway", "yes", "area")
	for i, l := range lists() {
		if i%7 > 0 && len(l) > 4 {
			continue // a part of the longer ones suffices
		}
		want := all(l)
		if all(append(slices.Clone(other), l...)) != want || all(append(slices.Clone(l), other...)) != want {
			t.Fatalf("tags with other keys change %v", l)
		}
	}
}

func TestP18_3Areas(t *testing.T) {
	areas := 0
	for _, l := range lists() {
		if !IsArea(l) {
			continue
		}
		areas++
		if Theme(l) == api.NoTheme || MinZoom(l) > api.MaxZoom {
			t.Fatalf("the area %v has the theme %d and MinZoom %d", l, Theme(l), MinZoom(l))
		}
	}
	if areas < 100 {
		t.Errorf("only %d areas", areas)
	}
}

// Every result follows from the description, restated here for the lists with each key at most once.
func TestP18_AllLists(t *testing.T) {
	zooms := map[string]int{"": 5, "motorway": 0, "track": 5, "city": 0, "hamlet": 6} // a ferry has no highway
	for _, l := range lists() {
		m := map[string]string{}
		for _, tag := range l {
			m[tag.Key] = tag.Val
		}
		var want answers
		highway, isHighway := m["highway"]
		want.class = map[string]int{"motorway": 1, "track": 5}[highway]
		if !isHighway && m["route"] == "ferry" {
			want.class = 6
		}
		switch {
		case m["natural"] == "water":
			want.theme, want.zoom, want.area = api.Water, 0, m["area"] != "no"
		case m["building"] == "yes":
			want.theme, want.zoom, want.area = api.Building, 6, m["area"] != "no"
		case m["landuse"] != "":
			want.theme, want.zoom, want.area = api.Land, 2, m["area"] != "no"
		case want.class > 0:
			want.theme, want.zoom = api.Road, zooms[highway]
		case m["boundary"] != "":
			want.theme, want.zoom, want.area = api.Border, 0, m["area"] == "yes"
		case m["place"] != "":
			want.theme, want.zoom = api.Settle, zooms[m["place"]]
		default:
			want.zoom = 8
		}
		switch {
		case m["oneway"] == "-1":
			want.way = -1
		case m["oneway"] == "yes", m["oneway"] == "" && highway == "motorway":
			want.way = 1
		}
		want.name = m["name"]
		if got := all(l); got != want {
			t.Fatalf("%v has %v, not %v", l, got, want)
		}
	}
}

func TestP18_Aliasing(t *testing.T) {
	l := of("name", "a", "highway", "track", "oneway", "yes")[:2]
	before := slices.Clone(l[:3])
	all(l)
	if !slices.Equal(l[:3], before) {
		t.Error("the tags have changed")
	}
}
