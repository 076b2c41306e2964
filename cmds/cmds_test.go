package cmds

import (
	"math"
	"math/rand"
	"slices"
	"testing"

	"mapmaker/api"
)

// geom makes a geometry from parts that are lists of coordinates.
func geom(kind int, parts ...[]int) api.Geom {
	g := api.Geom{Kind: kind}
	for _, c := range parts {
		var part []api.Point
		for i := 0; i+1 < len(c); i += 2 {
			part = append(part, api.Point{X: c[i], Y: c[i+1]})
		}
		g.Parts = append(g.Parts, part)
	}
	return g
}

func same(a, b api.Geom) bool {
	return a.Kind == b.Kind && slices.EqualFunc(a.Parts, b.Parts, slices.Equal)
}

func long(kind, n int) api.Geom {
	return api.Geom{Kind: kind, Parts: [][]api.Point{make([]api.Point, n)}}
}

func TestP30_1Check(t *testing.T) {
	for i, x := range []struct {
		g    api.Geom
		want api.Errno
	}{
		{geom(0), api.ErrArg}, {geom(4, []int{1, 1}), api.ErrArg}, {geom(-1), api.ErrArg}, {geom(math.MaxInt), api.ErrArg},
		{geom(api.GPoint), api.ErrEmpty}, {geom(api.GLine), api.ErrEmpty}, {geom(api.GArea), api.ErrEmpty},
		{geom(api.GPoint, nil), api.ErrShort}, {geom(api.GPoint, []int{1, 1, 2, 2}), api.ErrShort}, {geom(api.GPoint, []int{1, 1}), api.OK}, {geom(api.GPoint, []int{1, 1}, []int{1, 1}), api.OK}, {long(api.GPoint, 8001), api.ErrShort},
		{geom(api.GLine, []int{1, 1}), api.ErrShort}, {geom(api.GLine, []int{1, 1, 1, 1}), api.OK}, {long(api.GLine, 8000), api.OK}, {long(api.GLine, 8001), api.ErrLong},
		{geom(api.GArea, []int{1, 1, 2, 2}), api.ErrShort}, {geom(api.GArea, []int{1, 1, 2, 2, 1, 2}), api.OK}, {long(api.GArea, 8000), api.OK}, {long(api.GArea, 8001), api.ErrLong},
		{geom(api.GPoint, []int{0, 256}), api.OK}, {geom(api.GPoint, []int{256, 0}), api.OK}, {geom(api.GPoint, []int{257, 0}), api.ErrRange}, {geom(api.GPoint, []int{0, 257}), api.ErrRange}, {geom(api.GPoint, []int{-1, 0}), api.ErrRange}, {geom(api.GPoint, []int{0, -1}), api.ErrRange},
		{geom(api.GLine, []int{0, 0, math.MinInt, math.MaxInt}), api.ErrRange},
		{geom(api.GLine, []int{1, 1, 1, 300}, []int{1, 1}), api.ErrRange}, {geom(api.GLine, []int{1, 1}, []int{1, 1, 1, 300}), api.ErrShort}, {geom(api.GLine, []int{1, 1, 2, 2}, nil), api.ErrShort}, {geom(api.GLine, []int{-1, 1}), api.ErrShort},
		{api.Geom{Kind: api.GLine, Parts: [][]api.Point{append(make([]api.Point, 8000), api.Point{X: -1})}}, api.ErrLong},
	} {
		if got := Check(x.g); got != x.want {
			t.Errorf("%d: Check is %d, not %d", i, got, x.want)
		}
		l, err := Encode(x.g)
		if err != x.want || err != api.OK && len(l) != 0 {
			t.Errorf("%d: Encode is %v, %d", i, l, err)
		}
	}
}

// examples are geometries with their commands.
var examples = []struct {
	g api.Geom
	l []int
}{
	{geom(api.GLine, []int{2, 3, 4, 1}), []int{9, 4, 6, 10, 4, 3}},
	{geom(api.GPoint, []int{5, 7}), []int{9, 10, 14}},
	{geom(api.GPoint, []int{5, 7}, []int{3, 2}, []int{3, 2}), []int{25, 10, 14, 3, 9, 0, 0}},
	{geom(api.GLine, []int{2, 3, 4, 1}, []int{4, 1, 0, 256, 256, 0}), []int{9, 4, 6, 10, 4, 3, 9, 0, 0, 18, 7, 510, 512, 511}},
	{geom(api.GArea, []int{0, 0, 4, 0, 4, 4}), []int{9, 0, 0, 18, 8, 0, 0, 8, 15}},
	{geom(api.GArea, []int{0, 0, 9, 0, 9, 9, 0, 9}, []int{1, 1, 1, 2, 2, 2}), []int{9, 0, 0, 26, 18, 0, 0, 18, 17, 0, 15, 9, 2, 15, 18, 0, 2, 2, 0, 15}},
}

func TestP30_2Encode(t *testing.T) {
	for i, x := range examples {
		if l, err := Encode(x.g); err != api.OK || !slices.Equal(l, x.l) {
			t.Errorf("%d: Encode is %v, %d, not %v", i, l, err, x.l)
		}
	}
}

func TestP30_3Decode(t *testing.T) {
	for i, x := range examples {
		if g, err := Decode(x.g.Kind, x.l); err != api.OK || !same(g, x.g) {
			t.Errorf("%d: Decode is %v, %d, not %v", i, g, err, x.g)
		}
	}
}

func TestP30_3Invalid(t *testing.T) {
	for _, kind := range []int{0, 4, -1, math.MinInt, math.MaxInt} {
		if g, err := Decode(kind, []int{9, 4, 6}); err != api.ErrArg || !same(g, api.Geom{}) {
			t.Errorf("Decode of kind %d is %v, %d", kind, g, err)
		}
	}
	for _, x := range []struct {
		kind int
		l    []int
	}{
		{api.GPoint, nil}, {api.GLine, nil}, {api.GArea, nil},
		{api.GPoint, []int{1}}, {api.GPoint, []int{9}}, {api.GPoint, []int{9, 1}}, {api.GPoint, []int{9, 0}}, {api.GPoint, []int{9, 1, 1, 9, 2, 2}}, {api.GPoint, []int{9, 2, 2, 9, 2, 2}}, {api.GPoint, []int{17, 2, 2}}, {api.GPoint, []int{9, 2, 2, 2}}, {api.GPoint, []int{10, 2, 2}}, {api.GPoint, []int{15}}, {api.GPoint, []int{8, 2, 2}}, {api.GPoint, []int{11, 2, 2}}, {api.GPoint, []int{9, 2, 2, 15}}, {api.GPoint, []int{9, 2, 2, 1}},
		{api.GPoint, []int{9, 514, 0}}, {api.GPoint, []int{9, 0, 514}}, {api.GPoint, []int{9, 1, 0}}, {api.GPoint, []int{9, 0, 1}}, {api.GPoint, []int{9, -2, 0}}, {api.GPoint, []int{9, 0, -2}}, {api.GPoint, []int{-7, 2, 2}}, {api.GPoint, []int{math.MinInt + 1, 2, 2}}, {api.GPoint, []int{math.MaxInt&^7 + 1, 2, 2}},
		{api.GPoint, []int{9, math.MaxInt, 0}}, {api.GPoint, []int{9, math.MaxInt - 1, 0}}, {api.GPoint, []int{9, math.MinInt, 0}}, {api.GPoint, []int{41, math.MaxInt - 1, 0, math.MaxInt - 1, 0, 4, 0, 0, 0, 0, 0}},
		{api.GLine, []int{9, 4, 6}}, {api.GLine, []int{9, 4, 6, 2}}, {api.GLine, []int{9, 4}}, {api.GLine, []int{9, 4, 6, 10, 4}}, {api.GLine, []int{9, 4, 6, 10, 4, 3, 15}}, {api.GLine, []int{17, 4, 6, 0, 0, 10, 4, 3}}, {api.GLine, []int{10, 4, 3, 9, 4, 6}}, {api.GLine, []int{9, 4, 6, 9, 4, 6}}, {api.GLine, []int{9, 4, 6, 10, 4, 3, 10, 2, 2}}, {api.GLine, []int{9, 4, 6, 10, 4, 3, 9}}, {api.GLine, []int{9, 0, 1, 10, 2, 2}}, {api.GLine, []int{9, 4, 6, 10, 4, 3, 9, 0, 0, 2}}, {api.GLine, []int{17, 0, 0, 2, 2}}, {api.GLine, []int{1, 10, 4, 3}}, {api.GLine, []int{9, 4, 6, 12, 4, 3}},
		{api.GLine, []int{9, 4, 6, 18, 4, 3}}, {api.GLine, []int{9, 0, 0, 18, 3, 0, 4, 0}}, {api.GLine, []int{9, 0, 0, math.MaxInt&^7 + 2, 4, 0}},
		{api.GArea, []int{9, 0, 0, 18, 8, 0, 0, 8}}, {api.GArea, []int{9, 0, 0, 10, 8, 0, 15}}, {api.GArea, []int{9, 0, 0, 18, 8, 0, 0, 8, 23}}, {api.GArea, []int{9, 0, 0, 18, 8, 0, 0, 8, 7}}, {api.GArea, []int{9, 0, 0, 18, 8, 0, 0, 8, 15, 15}}, {api.GArea, []int{9, 0, 0, 18, 8, 0, 0, 8, 15, 9}}, {api.GArea, []int{9, 0, 0, 18, 8, 0, 0, 8, 15, 0}}, {api.GArea, []int{9, 0, 0, 18, 8, 0, 0, 8, 9, 0, 0, 18, 8, 0, 0, 8, 15}}, {api.GArea, []int{9, 0, 0, 10, 8, 0, 10, 0, 8, 15}}, {api.GArea, []int{15}}, {api.GArea, []int{9, 0, 0, 15}},
	} {
		if g, err := Decode(x.kind, x.l); err != api.ErrForm || !same(g, api.Geom{}) {
			t.Errorf("Decode of kind %d and %v is %v, %d", x.kind, x.l, g, err)
		}
	}
}

func TestP30_3Length(t *testing.T) {
	for _, n := range []int{8000, 8001} {
		l := append([]int{9, 0, 0, 2 + 8*(n-1)}, make([]int, 2*(n-1))...)
		g, err := Decode(api.GLine, l)
		if n == 8000 && (err != api.OK || len(g.Parts) != 1 || len(g.Parts[0]) != n) || n > 8000 && err != api.ErrForm {
			t.Errorf("Decode of %d points is %d", n, err)
		}
	}
}

func randomGeom(r *rand.Rand) api.Geom {
	g := api.Geom{Kind: 1 + r.Intn(3)}
	for range 1 + r.Intn(4) {
		n := 1
		if g.Kind != api.GPoint {
			n = g.Kind + r.Intn(5)
		}
		part := make([]api.Point, n)
		for i := range part {
			part[i] = api.Point{X: r.Intn(257), Y: r.Intn(257)}
		}
		g.Parts = append(g.Parts, part)
	}
	return g
}

func TestP30_4DecodeInvertsEncode(t *testing.T) {
	r := rand.New(rand.NewSource(1))
	for range 5000 {
		g := randomGeom(r)
		l, err := Encode(g)
		if err != api.OK {
			t.Fatalf("Encode of %v is %d", g, err)
		}
		if h, err := Decode(g.Kind, l); err != api.OK || !same(g, h) {
			t.Fatalf("Decode of %v is %v, %d, not %v", l, h, err, g)
		}
	}
}

// Whatever Decode accepts, Encode encodes so; damaged commands are mostly rejected.
func TestP30_4EncodeInvertsDecode(t *testing.T) {
	r := rand.New(rand.NewSource(2))
	accepted := 0
	for range 50000 {
		g := randomGeom(r)
		l, _ := Encode(g)
		switch i := r.Intn(len(l)); r.Intn(4) {
		case 0:
			l = l[:i]
		case 1:
			l[i] += r.Intn(5) - 2
		case 2:
			l = slices.Insert(l, i, r.Intn(20))
		case 3:
			l = slices.Delete(l, i, i+1)
		}
		kind := 1 + r.Intn(3)
		h, err := Decode(kind, l)
		if err != api.OK {
			continue
		}
		accepted++
		if m, err := Encode(h); err != api.OK || !slices.Equal(l, m) || h.Kind != kind {
			t.Fatalf("%v is decoded as %v, which is encoded as %v", l, h, m)
		}
	}
	if accepted == 0 {
		t.Error("no damaged commands were accepted: the test tests nothing")
	}
}

// The parts of a result share memory neither with one another nor with the argument.
func TestP30_Aliasing(t *testing.T) {
	l := []int{9, 4, 6, 10, 4, 3, 9, 0, 0, 10, 2, 2}
	before := slices.Clone(l)
	g, _ := Decode(api.GLine, l)
	if len(g.Parts) != 2 {
		t.Fatal("Decode")
	}
	second := slices.Clone(g.Parts[1])
	_ = append(g.Parts[0], api.Point{X: -1})
	if !slices.Equal(g.Parts[1], second) || !slices.Equal(l, before) {
		t.Error("parts share memory")
	}
	h := geom(api.GLine, []int{2, 3, 4, 1})
	m, _ := Encode(h)
	m[1] = 99
	if !same(h, geom(api.GLine, []int{2, 3, 4, 1})) {
		t.Error("Encode changes its argument")
	}
}
