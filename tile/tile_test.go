package tile

import (
	"fmt"
	"math"
	"math/rand"
	"reflect"
	"slices"
	"strings"
	"testing"

	"mapmaker/api"
	"mapmaker/cmds"
)

func point(x, y int) api.Geom {
	return api.Geom{Kind: api.GPoint, Parts: [][]api.Point{{{X: x, Y: y}}}}
}

func line(l ...api.Point) api.Geom { return api.Geom{Kind: api.GLine, Parts: [][]api.Point{l}} }

func feature(kind, id int, g api.Geom, tags ...string) api.Feature {
	f := api.Feature{Ref: api.Ref{Kind: kind, ID: id}, Geom: g}
	for i := 0; i < len(tags); i += 2 {
		f.Tags = append(f.Tags, api.Tag{Key: tags[i], Val: tags[i+1]})
	}
	return f
}

func layer(theme int, l ...api.Feature) api.Layer { return api.Layer{Theme: theme, Features: l} }

// sample returns two valid layers with several features.
func sample() []api.Layer {
	square := api.Geom{Kind: api.GArea, Parts: [][]api.Point{{{X: 0, Y: 0}, {X: 256, Y: 0}, {X: 256, Y: 256}}, {{X: 3, Y: 3}, {X: 2, Y: 3}, {X: 2, Y: 2}, {X: 3, Y: 2}}}}
	return []api.Layer{
		layer(api.Water, feature(1, 5, point(1, 2), "b", "x", "c", "y"), feature(2, 1, line(api.Point{X: 1}, api.Point{Y: 256}), "a", "y", "b", "b"), feature(2, 300, square)),
		layer(api.Settle, feature(3, 1, square, "a", ""), feature(3, api.MaxID, point(0, 0), "\xff\x00", "x", "\xff\x01", "x")),
	}
}

func TestP31_1Valid(t *testing.T) {
	full := layer(api.Road)
	for i := range api.MaxObject {
		full.Features = append(full.Features, feature(2, i+1, point(i%257, 0)))
	}
	var six []api.Layer
	for theme := api.Water; theme <= api.Settle; theme++ {
		six = append(six, layer(theme, feature(1, 1, point(0, 0))))
	}
	for i, l := range [][]api.Layer{nil, {}, sample(), {full}, six, six[2:3], six[:0]} {
		if err := Check(l); err != api.OK {
			t.Errorf("%d: Check is %d", i, err)
		}
	}
}

// flaw is a change that makes the second layer of the sample, or its second feature, invalid.
type flaw struct {
	name  string
	err   api.Errno
	spoil func(l []api.Layer)
}

// flaws has the flaws in the order in which Check finds them.
func flaws() []flaw {
	long := make([]api.Feature, api.MaxObject+1)
	return []flaw{
		{"theme", api.ErrArg, func(l []api.Layer) { l[1].Theme = 0 }},
		{"order of themes", api.ErrOrder, func(l []api.Layer) { l[1].Theme = api.Water }},
		{"no features", api.ErrEmpty, func(l []api.Layer) { l[1].Features = nil }},
		{"many features", api.ErrLong, func(l []api.Layer) { l[1].Features = long }},
		{"kind", api.ErrRange, func(l []api.Layer) { l[1].Features[1].Ref.Kind = 4 }},
		{"order of features", api.ErrOrder, func(l []api.Layer) { l[1].Features[1].Ref.ID = 1 }},
		{"tags", api.ErrTag, func(l []api.Layer) { l[1].Features[1].Tags = []api.Tag{{}} }},
		{"geometry", api.ErrArg, func(l []api.Layer) { l[1].Features[1].Geom.Kind = 4 }},
	}
}

func TestP31_1FirstError(t *testing.T) {
	l := flaws()
	for i, first := range l {
		for _, second := range l[i:] {
			layers := sample()
			// The second one first, because the first one may replace the same field: then it alone remains.
			second.spoil(layers)
			first.spoil(layers)
			if err := Check(layers); err != first.err {
				t.Errorf("%s and %s: Check is %d, not %d", first.name, second.name, err, first.err)
			}
			if s, err := Encode(layers); s != "" || err != first.err {
				t.Errorf("%s and %s: Encode is %q, %d, not %d", first.name, second.name, s, err, first.err)
			}
		}
	}
	// The theme comes before the features, whether there are none or too many.
	for _, layers := range [][]api.Layer{{{}}, {{Theme: 7, Features: make([]api.Feature, api.MaxObject+1)}}} {
		if err := Check(layers); err != api.ErrArg {
			t.Errorf("Check of a wrong theme and wrong features is %d", err)
		}
	}
	one := sample()[0]
	for _, layers := range [][]api.Layer{{one, {Theme: 1}}, {one, {Theme: 1, Features: make([]api.Feature, api.MaxObject+1)}}} {
		if err := Check(layers); err != api.ErrOrder {
			t.Errorf("Check of a wrong order and wrong features is %d", err)
		}
	}
}

// An error of a layer or a feature comes before those of the next one, whatever they are.
func TestP31_1FirstPart(t *testing.T) {
	l := sample()
	l[0].Features[0].Geom.Parts = nil
	l[0].Features[1].Ref.Kind = 0
	l[1].Theme = 0
	if err := Check(l); err != api.ErrEmpty {
		t.Errorf("Check is %d, not ErrEmpty", err)
	}
	l[0].Features[0].Geom = point(1, 1)
	if err := Check(l); err != api.ErrRange {
		t.Errorf("Check is %d, not ErrRange", err)
	}
}

func TestP31_1Layers(t *testing.T) {
	one := feature(1, 1, point(0, 0))
	for _, y := range []struct {
		themes []int
		want   api.Errno
	}{
		{make([]int, 17), api.ErrLong}, {make([]int, 16), api.ErrArg}, {[]int{1, 2, 3, 4, 5, 6, 6, 6, 6, 6, 6, 6, 6, 6, 6, 6}, api.ErrOrder}, {[]int{1, 2, 3, 4, 5, 6, 6, 6, 6, 6, 6, 6, 6, 6, 6, 6, 6}, api.ErrLong},
		{[]int{0}, api.ErrArg}, {[]int{7}, api.ErrArg}, {[]int{-1}, api.ErrArg}, {[]int{math.MaxInt}, api.ErrArg}, {[]int{math.MinInt}, api.ErrArg}, {[]int{1, 7}, api.ErrArg}, {[]int{3, 0}, api.ErrArg},
		{[]int{2, 2}, api.ErrOrder}, {[]int{2, 1}, api.ErrOrder}, {[]int{1, 3, 2}, api.ErrOrder}, {[]int{1, 3, 6}, api.OK},
	} {
		var l []api.Layer
		for _, theme := range y.themes {
			l = append(l, layer(theme, one))
		}
		if err := Check(l); err != y.want {
			t.Errorf("Check of the themes %v is %d, not %d", y.themes, err, y.want)
		}
	}
}

func TestP31_1Features(t *testing.T) {
	g := point(0, 0)
	for _, y := range []struct {
		refs []api.Ref
		want api.Errno
	}{
		{[]api.Ref{{Kind: 0, ID: 1}}, api.ErrRange}, {[]api.Ref{{Kind: 4, ID: 1}}, api.ErrRange}, {[]api.Ref{{Kind: -1, ID: 1}}, api.ErrRange}, {[]api.Ref{{Kind: math.MinInt, ID: 1}}, api.ErrRange},
		{[]api.Ref{{Kind: 1, ID: 0}}, api.ErrRange}, {[]api.Ref{{Kind: 1, ID: -5}}, api.ErrRange}, {[]api.Ref{{Kind: 3, ID: api.MaxID + 1}}, api.ErrRange}, {[]api.Ref{{Kind: 3, ID: math.MaxInt}}, api.ErrRange},
		{[]api.Ref{{Kind: 1, ID: 5}, {Kind: 1, ID: 5}}, api.ErrOrder}, {[]api.Ref{{Kind: 1, ID: 5}, {Kind: 1, ID: 4}}, api.ErrOrder}, {[]api.Ref{{Kind: 2, ID: 1}, {Kind: 1, ID: 7}}, api.ErrOrder}, {[]api.Ref{{Kind: 2, ID: 9}, {Kind: 0, ID: 10}}, api.ErrRange},
		{[]api.Ref{{Kind: 1, ID: 1}, {Kind: 2, ID: 1}, {Kind: 1, ID: 2}}, api.ErrOrder},
		{[]api.Ref{{Kind: 1, ID: 5}, {Kind: 2, ID: 4}, {Kind: 2, ID: 5}, {Kind: 3, ID: 1}, {Kind: 3, ID: api.MaxID}}, api.OK},
	} {
		l := layer(4)
		for _, r := range y.refs {
			l.Features = append(l.Features, feature(r.Kind, r.ID, g))
		}
		if err := Check([]api.Layer{l}); err != y.want {
			t.Errorf("Check of the features %v is %d, not %d", y.refs, err, y.want)
		}
	}
	if err := Check([]api.Layer{layer(1, feature(3, 9, g)), layer(2, feature(1, 1, g))}); err != api.OK {
		t.Errorf("Check compares features of different layers: %d", err)
	}
}

func TestP31_1OtherChecks(t *testing.T) {
	g := point(0, 0)
	many := feature(1, 1, g)
	many.Tags = make([]api.Tag, api.MaxTags+1)
	for _, y := range []struct {
		f    api.Feature
		want api.Errno
	}{
		{many, api.ErrLong}, {feature(1, 1, g, "", "x"), api.ErrTag}, {feature(1, 1, g, "b", "", "a", ""), api.ErrOrder}, {feature(1, 1, g, "a", strings.Repeat("v", 65)), api.ErrTag},
		{feature(1, 1, api.Geom{}), api.ErrArg}, {feature(1, 1, api.Geom{Kind: api.GLine}), api.ErrEmpty}, {feature(1, 1, line(api.Point{})), api.ErrShort}, {feature(1, 1, point(257, 0)), api.ErrRange},
		{feature(1, 1, line(make([]api.Point, 4*api.MaxPoints+1)...)), api.ErrLong},
		{feature(1, 1, point(257, 0), "", "x"), api.ErrTag},
	} {
		if err := Check([]api.Layer{layer(4, y.f)}); err != y.want {
			t.Errorf("Check is %d, not %d", err, y.want)
		}
		if s, err := Encode([]api.Layer{layer(4, y.f)}); s != "" || err != y.want {
			t.Errorf("Encode is %q, %d, not %d", s, err, y.want)
		}
	}
}

func TestP31_2Examples(t *testing.T) {
	g := point(1, 2)
	for _, y := range []struct {
		l    []api.Layer
		want []byte
	}{
		{nil, nil},
		{[]api.Layer{layer(4, feature(2, 7, line(api.Point{}, api.Point{X: 1})))}, []byte{1, 4, 0, 0, 1, 2, 7, 0, 2, 6, 9, 0, 0, 10, 2, 0}},
		{[]api.Layer{layer(6, feature(1, 3, g, "a", "b"), feature(1, 4, g, "a", "b"))}, []byte{1, 6, 1, 1, 'a', 1, 1, 'b', 2, 1, 3, 1, 0, 0, 1, 3, 9, 2, 4, 1, 4, 1, 0, 0, 1, 3, 9, 2, 4}},
		// Strings are numbered as they occur, not in order, and keys apart from values; each layer has its own.
		{[]api.Layer{layer(1, feature(1, 1, g, "b", "x", "c", "b"), feature(3, 200, g, "a", "b", "c", "x")), layer(2, feature(1, 1, g, "c", ""))}, []byte{
			2,
			1, 3, 1, 'b', 1, 'c', 1, 'a', 2, 1, 'x', 1, 'b', 2, 1, 1, 2, 0, 0, 1, 1, 1, 3, 9, 2, 4, 3, 200, 1, 2, 2, 1, 1, 0, 1, 3, 9, 2, 4,
			2, 1, 1, 'c', 1, 0, 1, 1, 1, 1, 0, 0, 1, 3, 9, 2, 4,
		}},
	} {
		if s, err := Encode(y.l); s != string(y.want) || err != api.OK {
			t.Errorf("Encode is %v, %d, not %v", []byte(s), err, y.want)
		}
		if l, err := Decode(string(y.want)); err != api.OK || !equal(l, y.l) {
			t.Errorf("Decode of %v is %v, %d", y.want, l, err)
		}
	}
}

// put returns an unsigned integer in LEB128.
func put(n int) (out []byte) {
	for ; n > 127; n >>= 7 {
		out = append(out, byte(n&127|128))
	}
	return append(out, byte(n))
}

// plain encodes valid layers as the document lists the fields.
func plain(l []api.Layer) string {
	var out []byte
	number := func(n int) { out = append(out, put(n)...) }
	text := func(s string) { number(len(s)); out = append(out, s...) }
	number(len(l))
	for _, layer := range l {
		number(layer.Theme)
		tables := [2][]string{}
		numbers := [2]map[string]int{{}, {}}
		for _, f := range layer.Features {
			for _, tag := range f.Tags {
				for i, s := range []string{tag.Key, tag.Val} {
					if _, ok := numbers[i][s]; !ok {
						numbers[i][s] = len(tables[i])
						tables[i] = append(tables[i], s)
					}
				}
			}
		}
		for _, table := range tables {
			number(len(table))
			for _, s := range table {
				text(s)
			}
		}
		number(len(layer.Features))
		for _, f := range layer.Features {
			number(f.Ref.Kind)
			number(f.Ref.ID)
			number(len(f.Tags))
			for _, tag := range f.Tags {
				number(numbers[0][tag.Key])
				number(numbers[1][tag.Val])
			}
			number(f.Geom.Kind)
			commands, _ := cmds.Encode(f.Geom)
			number(len(commands))
			for _, n := range commands {
				number(n)
			}
		}
	}
	return string(out)
}

// equal reports whether both lists are equal; nil and empty slices are.
func equal(a, b []api.Layer) bool {
	return slices.EqualFunc(a, b, func(a, b api.Layer) bool {
		return a.Theme == b.Theme && slices.EqualFunc(a.Features, b.Features, func(a, b api.Feature) bool {
			return a.Ref == b.Ref && slices.Equal(a.Tags, b.Tags) && a.Geom.Kind == b.Geom.Kind && slices.EqualFunc(a.Geom.Parts, b.Geom.Parts, slices.Equal)
		})
	})
}

func randomGeom(r *rand.Rand) api.Geom {
	g := api.Geom{Kind: 1 + r.Intn(3)}
	for range 1 + r.Intn(3) {
		n := 1
		if g.Kind != api.GPoint {
			n = g.Kind + r.Intn(80)
		}
		var part []api.Point
		for range n {
			part = append(part, api.Point{X: r.Intn(257), Y: r.Intn(257)})
		}
		g.Parts = append(g.Parts, part)
	}
	return g
}

// random returns valid layers.
func random(r *rand.Rand) (out []api.Layer) {
	for theme := 1; theme <= 6; theme++ {
		if r.Intn(2) == 0 {
			continue
		}
		l := layer(theme)
		for kind := 1; kind <= 3; kind++ {
			id := 0
			for range r.Intn(4) {
				id += 1 + r.Intn(1<<r.Intn(29))
				f := feature(kind, id, randomGeom(r))
				for _, key := range []string{"a", "b", "c", "name"} {
					if r.Intn(2) == 0 {
						f.Tags = append(f.Tags, api.Tag{Key: key, Val: strings.Repeat("v", r.Intn(4))})
					}
				}
				l.Features = append(l.Features, f)
			}
		}
		if len(l.Features) > 0 {
			out = append(out, l)
		}
	}
	return out
}

func TestP31_2Random(t *testing.T) {
	r := rand.New(rand.NewSource(1))
	for range 500 {
		l := random(r)
		if len(l) == 0 {
			continue
		}
		s, err := Encode(l)
		if err != api.OK || s != plain(l) {
			t.Fatalf("Encode of %v is %v, %d", l, []byte(s), err)
		}
	}
}

func TestP31_3Random(t *testing.T) {
	r := rand.New(rand.NewSource(2))
	for range 300 {
		l := random(r)
		s, _ := Encode(l)
		if got, err := Decode(s); err != api.OK || !equal(got, l) {
			t.Fatalf("Decode(Encode(%v)) is %v, %d", l, got, err)
		}
	}
}

func TestP31_3LongStrings(t *testing.T) {
	f := feature(1, 1, point(0, 0))
	for i := range api.MaxTags {
		f.Tags = append(f.Tags, api.Tag{Key: string(rune('a'+i)) + strings.Repeat("k", api.MaxText-1), Val: string(rune('a'+i)) + strings.Repeat("v", api.MaxText-1)})
	}
	l := []api.Layer{layer(1, f)}
	s, err := Encode(l)
	if err != api.OK {
		t.Fatal(err)
	}
	if got, err := Decode(s); err != api.OK || !equal(got, l) {
		t.Errorf("Decode of long strings is %v, %d", got, err)
	}
}

func TestP31_3Empty(t *testing.T) {
	if l, err := Decode(""); len(l) != 0 || err != api.OK {
		t.Errorf("Decode of nothing is %v, %d", l, err)
	}
}

func wrong(t *testing.T, name string, b []byte) {
	t.Helper()
	if l, err := Decode(string(b)); l != nil || err != api.ErrForm {
		t.Errorf("%s: Decode of %v is %v, %d", name, b, l, err)
	}
}

func TestP31_3Invalid(t *testing.T) {
	cat := func(parts ...[]byte) (out []byte) {
		for _, p := range parts {
			out = append(out, p...)
		}
		return out
	}
	good := []byte{1, 6, 1, 1, 'a', 1, 1, 'b', 1, 1, 3, 1, 0, 0, 1, 3, 9, 2, 4}
	if l, err := Decode(string(good)); len(l) != 1 || err != api.OK {
		t.Fatalf("Decode is %v, %d", l, err)
	}
	huge := []byte{255, 255, 255, 255, 255, 255, 255, 255, 127}
	over := []byte{255, 255, 255, 255, 255, 255, 255, 255, 255, 1}
	for name, b := range map[string][]byte{
		"no layers":                    {0},
		"no layers and more":           {0, 0},
		"a byte too many":              cat(good, []byte{0}),
		"17 layers":                    cat([]byte{17}, good[1:]),
		"theme 0":                      cat([]byte{1, 0}, good[2:]),
		"theme 7":                      cat([]byte{1, 7}, good[2:]),
		"a huge theme":                 cat([]byte{1}, huge, good[2:]),
		"a theme with 64 bits":         cat([]byte{1}, over, good[2:]),
		"a theme twice":                cat([]byte{2}, good[1:], good[1:]),
		"decreasing themes":            cat([]byte{2}, good[1:], []byte{5}, good[2:]),
		"no features":                  {1, 6, 0, 0, 0},
		"no features but strings":      {1, 6, 1, 1, 'a', 1, 1, 'b', 0},
		"an unused key":                {1, 6, 2, 1, 'a', 1, 'c', 1, 1, 'b', 1, 1, 3, 1, 0, 0, 1, 3, 9, 2, 4},
		"an unused value":              {1, 6, 1, 1, 'a', 2, 1, 'b', 1, 'c', 1, 1, 3, 1, 0, 0, 1, 3, 9, 2, 4},
		"a key twice":                  {1, 6, 2, 1, 'a', 1, 'a', 1, 1, 'b', 1, 1, 3, 1, 0, 0, 1, 3, 9, 2, 4},
		"a value twice":                {1, 6, 1, 1, 'a', 2, 1, 'b', 1, 'b', 1, 1, 3, 1, 0, 0, 1, 3, 9, 2, 4},
		"an empty value twice":         {1, 6, 1, 1, 'a', 2, 0, 0, 1, 1, 3, 1, 0, 0, 1, 3, 9, 2, 4},
		"an empty key":                 {1, 6, 1, 0, 1, 1, 'b', 1, 1, 3, 1, 0, 0, 1, 3, 9, 2, 4},
		"keys in another order":        {1, 6, 2, 1, 'b', 1, 'a', 1, 1, 'b', 1, 1, 3, 2, 1, 0, 0, 0, 1, 3, 9, 2, 4},
		"tags in another order":        {1, 6, 2, 1, 'b', 1, 'a', 1, 1, 'b', 1, 1, 3, 2, 0, 0, 1, 0, 1, 3, 9, 2, 4},
		"a key without number":         {1, 6, 1, 1, 'a', 1, 1, 'b', 1, 1, 3, 1, 1, 0, 1, 3, 9, 2, 4},
		"a value without number":       {1, 6, 1, 1, 'a', 1, 1, 'b', 1, 1, 3, 1, 0, 1, 1, 3, 9, 2, 4},
		"an empty value not numbered":  {1, 6, 1, 1, 'a', 1, 0, 1, 1, 3, 1, 0, 1, 1, 3, 9, 2, 4},
		"kind 0":                       {1, 6, 0, 0, 1, 0, 3, 0, 1, 3, 9, 2, 4},
		"kind 4":                       {1, 6, 0, 0, 1, 4, 3, 0, 1, 3, 9, 2, 4},
		"ID 0":                         {1, 6, 0, 0, 1, 1, 0, 0, 1, 3, 9, 2, 4},
		"a huge ID":                    cat([]byte{1, 6, 0, 0, 1, 1}, huge, []byte{0, 1, 3, 9, 2, 4}),
		"an ID of 2 bytes for 3":       {1, 6, 0, 0, 1, 1, 131, 0, 0, 1, 3, 9, 2, 4},
		"the same feature twice":       {1, 6, 0, 0, 2, 1, 3, 0, 1, 3, 9, 2, 4, 1, 3, 0, 1, 3, 9, 2, 4},
		"geometry of kind 0":           {1, 6, 0, 0, 1, 1, 3, 0, 0, 3, 9, 2, 4},
		"geometry of another kind":     {1, 6, 0, 0, 1, 1, 3, 0, 2, 3, 9, 2, 4},
		"no geometry":                  {1, 6, 0, 0, 1, 1, 3, 0, 1, 0},
		"a geometry outside":           {1, 6, 0, 0, 1, 1, 3, 0, 1, 3, 9, 1, 4},
		"a command with 64 bits":       cat([]byte{1, 6, 0, 0, 1, 1, 3, 0, 1, 3, 9}, over, []byte{4}),
		"more integers than bytes":     {1, 6, 0, 0, 1, 1, 3, 0, 1, 200, 1, 9, 2, 4},
		"a huge number of keys":        cat([]byte{1, 6}, huge),
		"a huge number of values":      cat([]byte{1, 6, 0}, huge),
		"a huge number of features":    cat([]byte{1, 6, 0, 0}, huge),
		"a huge number of tags":        cat([]byte{1, 6, 0, 0, 1, 1, 3}, huge),
		"a huge number of integers":    cat([]byte{1, 6, 0, 0, 1, 1, 3, 0, 1}, huge),
		"a huge number of layers":      huge,
		"a number of layers too large": over,
		"a long key":                   cat([]byte{1, 6, 1, 65}, make([]byte, 65), []byte{1, 1, 'b', 1, 1, 3, 1, 0, 0, 1, 3, 9, 2, 4}),
	} {
		wrong(t, name, b)
	}
}

// Of all strings near a good one, exactly those are decoded that Encode returns.
func TestP31_3OtherBytes(t *testing.T) {
	l := []api.Layer{layer(1, feature(1, 3, point(1, 2), "a", "b", "c", "b")), layer(6, feature(2, 7, line(api.Point{}, api.Point{X: 1})), feature(3, 7, point(0, 0), "d", ""))}
	good, err := Encode(l)
	if err != api.OK {
		t.Fatal(err)
	}
	try := func(s string) {
		got, err := Decode(s)
		if err == api.ErrForm {
			if got != nil {
				t.Fatalf("Decode of %v returns layers with an error", []byte(s))
			}
			return
		}
		again, _ := Encode(got)
		if err != api.OK || Check(got) != api.OK || again != s || s != "" && plain(got) != s {
			t.Fatalf("Decode of %v is %v, %d", []byte(s), got, err)
		}
	}
	for i := range good {
		try(good[:i])
		try(good[i:])
		try(good[:i] + good[i+1:])
		for c := range 256 {
			try(good[:i] + string([]byte{byte(c)}) + good[i+1:])
			try(good[:i] + string([]byte{byte(c)}) + good[i:])
		}
	}
	r := rand.New(rand.NewSource(3))
	for range 20000 {
		b := []byte(good)
		for range 1 + r.Intn(4) {
			b[r.Intn(len(b))] = byte(r.Intn(12))
		}
		try(string(b))
	}
}

func TestP31_4OneEncoding(t *testing.T) {
	r := rand.New(rand.NewSource(4))
	seen := map[string][]api.Layer{}
	for range 300 {
		l := random(r)
		s, err := Encode(l)
		if err != api.OK {
			t.Fatal(err)
		}
		if other, ok := seen[s]; ok && !equal(other, l) {
			t.Fatalf("%v and %v have the same encoding", other, l)
		}
		seen[s] = l
		if again, _ := Encode(l); again != s {
			t.Fatal("two encodings of the same layers")
		}
	}
}

func TestP31_4StoredOnce(t *testing.T) {
	key, val := strings.Repeat("k", 40), strings.Repeat("w", 40)
	l := layer(4)
	for i := range 50 {
		l.Features = append(l.Features, feature(1, i+1, point(i, i), key, val))
	}
	s, err := Encode([]api.Layer{l})
	if err != api.OK || strings.Count(s, key) != 1 || strings.Count(s, val) != 1 {
		t.Errorf("the key occurs %d times and the value %d times", strings.Count(s, key), strings.Count(s, val))
	}
}

func TestP31_Large(t *testing.T) {
	var l []api.Layer
	for theme := 1; theme <= 6; theme++ {
		x := layer(theme)
		for i := range api.MaxObject {
			x.Features = append(x.Features, feature(2, i+1, line(api.Point{X: i % 257}, api.Point{Y: 256}, api.Point{X: 9, Y: i % 250}), "name", fmt.Sprint(i)))
		}
		l = append(l, x)
	}
	s, err := Encode(l)
	if err != api.OK {
		t.Fatal(err)
	}
	if got, err := Decode(s); err != api.OK || !reflect.DeepEqual(got, l) {
		t.Error("Decode does not invert Encode")
	}
}

func TestP31_Aliasing(t *testing.T) {
	l := sample()
	s, _ := Encode(l)
	a, _ := Decode(s)
	b, _ := Decode(s)
	a[0].Features[0].Tags[0], a[0].Features[0].Geom.Parts[0][0], a[1] = api.Tag{}, api.Point{X: 9}, api.Layer{}
	if !equal(l, sample()) || !equal(b, sample()) {
		t.Error("results share memory")
	}
}
